/-
  Small laws of our own over the model: a row of bytes that a call owns and appends to, and a slice of bytes that is read. No program is named here.
-/
import Derived.WalkKit
import Derived.Laws.BitsAllLaws
import Derived.WalkSmall
import Derived.Lib.AppendStr
import Derived.Laws.AppendOwnNone
import Derived.Laws.OwnMore
import Derived.Laws.BytesArg
import Derived.OpenShut
namespace Go.Proofs.YtpkdiododlhipaaGreat
open Go.RowKit
def smF:Nat→Nat→List UInt8
 | 0,n=>[UInt8.ofNat n]
 | f+1,n=>if n<128 then [UInt8.ofNat n] else UInt8.ofNat (n % 128+128)::smF f (n / 128)
theorem qju {n:Nat} (h:n<128):∀f,smF f n=[UInt8.ofNat n]
 | 0=>rfl
 | f+1=>by simp [smF,h]
theorem qr4:∀f g n:Nat,n≤f→n≤g→smF f n=smF g n
 | 0,g,n,h,_=>by
  obtain rfl:n=0:=by omega
  rw [qju (by omega),qju (by omega)]
 | f+1,0,n,_,h=>by
  obtain rfl:n=0:=by omega
  rw [qju (by omega),qju (by omega)]
 | f+1,g+1,n,h,k=>by
  by_cases hl:n<128
  ·rw [qju hl,qju hl]
  ·simp only [smF,hl,if_false]
   rw [qr4 f g (n / 128) (by omega) (by omega)]
def sm (n:Nat):List UInt8:=smF n n
theorem qqk {n:Nat} (h:n<128):sm n=[UInt8.ofNat n]:=qju h n
theorem qql {n:Nat} (h:128≤n):sm n=UInt8.ofNat (n % 128+128)::sm (n / 128):=by
 unfold sm;obtain ⟨m,rfl⟩:∃m,n=m+1:=⟨n - 1,by omega⟩;rw [smF,if_neg (by omega),qr4 m ((m+1) / 128) _ (by omega) (by omega)]
theorem qu6 (n:Nat):1≤(sm n).length:=by
 by_cases h:n<128
 ·rw [qqk h];simp
 ·rw [qql (by omega)];simp
theorem qof:∀(k n:Nat),n<128 ^ k→(sm n).length≤max 1 k
 | 0,n,h=>by simp at h;subst h;rw [qqk (by omega)];simp
 | k+1,n,h=>by
  by_cases h1:n<128
  ·rw [qqk h1];simp
  ·rw [qql (by omega)]
   have:=qof k (n / 128) (by rw [Nat.pow_succ] at h;omega)
   have hk:1≤k:=by
    rcases k with _ | k
    ·simp at h;omega
    ·omega
   simp only [List.length_cons];omega
theorem qa9 {n:Nat} (h:n<18446744073709551616):(sm n).length≤10:=by
 have:=qof 10 n (by omega);omega
theorem u8_mod (m:Nat):(m:Int) % 256=((UInt8.ofNat m).toNat:Int):=by
 rw [UInt8.toNat_ofNat'];omega
theorem u8_id (m:Nat) (h:m<256):(m:Int)=((UInt8.ofNat m).toNat:Int):=by
 rw [UInt8.toNat_ofNat'];omega
theorem qu7:∀x:Fin 256,x.val ||| 128=x.val % 128+128:=by decide+kernel
theorem or128 (m:Nat):bits BinOp.or IntKind.u8 ((m:Int) % 256) 128=((UInt8.ofNat (m % 128+128)).toNat:Int):=by
 have h:=u8_or_nat (m % 256) 128 (by omega) (by omega)
 have e:(((m % 256:Nat):Int))=(m:Int) % 256:=by omega
 rw [e] at h;have h2:=qu7 ⟨m % 256,by omega⟩
 simp only at h2
 rw [h2] at h;rw [UInt8.toNat_ofNat'];rw [show (128:Int)=((128:Nat):Int) from rfl,h];omega
def u8v (l:List UInt8):List Value:=l.map fun b=>Value.int .u8 b.toNat
@[simp] theorem u8v_length (l:List UInt8):(u8v l).length=l.length:=by simp [u8v]
theorem qh6 (a b:List UInt8):u8v (a++b)=u8v a++u8v b:=by simp [u8v]
def rdGo:List UInt8→Nat→Nat→Option (Nat × Nat)
 | [],_,_=>none
 | c::r,i,acc=>
  if i=9∧1<c.toNat then none
  else if 128≤c.toNat then rdGo r (i+1) (acc+(c.toNat % 128)*128 ^ i)
  else if c.toNat=0∧0<i then none
  else some (acc+c.toNat*128 ^ i,i+1)
def rd (l:List UInt8):Option (Nat × Nat):=rdGo l 0 0
def rdV:Option (Nat × Nat)→Value
 | none=>.tuple #[.int .u64 0,.int .i64 0,.int .i64 8]
 | some (n,k)=>.tuple #[.int .u64 n,.int .i64 k,.int .i64 0]
theorem qyw {c:UInt8} {r:List UInt8} {acc:Nat} (h:1<c.toNat):rdGo (c::r) 9 acc=none:=by simp [rdGo,h]
theorem qog {c:UInt8} {r:List UInt8} {i acc:Nat} (h9:i≠9) (h:128≤c.toNat):rdGo (c::r) i acc=rdGo r (i+1) (acc+(c.toNat % 128)*128 ^ i):=by
 simp [rdGo,h9,h]
theorem qoh {c:UInt8} {r:List UInt8} {i acc:Nat} (h0:c.toNat=0) (hi:0<i):rdGo (c::r) i acc=none:=by
 simp [rdGo,h0,hi]
theorem qg6 {c:UInt8} {r:List UInt8} {i acc:Nat} (h9:¬(i=9∧1<c.toNat)) (h:c.toNat<128) (h0:¬(c.toNat=0∧0<i)):rdGo (c::r) i acc=some (acc+c.toNat*128 ^ i,i+1):=by
 rw [rdGo,if_neg h9,if_neg (by omega),if_neg h0]
theorem qu8 (k:Nat):2 ^ (7*k)=128 ^ k:=by rw [Nat.pow_mul]
theorem qu9 (acc k x:Nat) (hacc:acc<128 ^ k) (hk:k≤8):
  bits BinOp.or IntKind.u64 (acc:Int) (IntKind.u64.wrap ((x:Int) % 128*2 ^ (7*k)))=((acc+x % 128*128 ^ k:Nat):Int):=by
 have h8:128 ^ k≤72057594037927936:=Nat.le_trans (Nat.pow_le_pow_right (by decide) hk) (by decide)
 have e:((x:Int) % 128*2 ^ (7*k))=((x % 128*128 ^ k:Nat):Int):=by
  rw [←qu8];push_cast;rfl
 have hm:x % 128*128 ^ k≤127*72057594037927936:=Nat.mul_le_mul (by omega) h8;rw [e,IntKind.wrap_u64,show ((x % 128*128 ^ k:Nat):Int) % 18446744073709551616=((x % 128*128 ^ k:Nat):Int) by omega];rw [u64_or_nat _ _ (by omega) (by omega)]
 congr 1
 have h:=Nat.two_pow_add_eq_or_of_lt (i:=7*k) (b:=acc) (by rw [qu8];exact hacc) (x % 128);rw [qu8,Nat.mul_comm] at h;rw [Nat.or_comm,←h,Nat.add_comm]
theorem qab0 (acc x:Nat) (hacc:acc<128 ^ 9) (hx:x≤1):
  bits BinOp.or IntKind.u64 (acc:Int) ((x:Int) % 128*9223372036854775808)=((acc+x*128 ^ 9:Nat):Int):=by
 have e:((x:Int) % 128*9223372036854775808)=((x*9223372036854775808:Nat):Int):=by omega
 rw [e,u64_or_nat _ _ (by omega) (by omega)]
 congr 1
 have h:=Nat.two_pow_add_eq_or_of_lt (i:=63) (b:=acc) (by omega) x;rw [Nat.or_comm,show x*9223372036854775808=2 ^ 63*x by omega,←h];omega
theorem qr5 {acc k x:Nat} (h:acc<128 ^ k):acc+x % 128*128 ^ k<128 ^ (k+1):=by
 rw [Nat.pow_succ]
 have:x % 128*128 ^ k≤127*128 ^ k:=Nat.mul_le_mul_right _ (by omega)
 omega
end Go.Proofs.YtpkdiododlhipaaGreat
namespace Go.Proofs.YtpkdiododlhipaaGreat
open Go.RowKit
theorem qdt (l:List UInt8):∀u∈u8v l,u.oneCell'=true:=by
 intro u hu
 simp only [u8v,List.mem_map] at hu
 obtain ⟨b,_,rfl⟩:=hu;rfl
theorem qdf (l:List UInt8) (j:Nat) (u:Value) (h:(u8v l)[j]? =some u):∃hj:j<l.length,u=.int .u8 (l[j]).toNat:=by
 simp only [u8v,List.getElem?_map,Option.map_eq_some_iff] at h
 obtain ⟨b,hb,rfl⟩:=h;obtain ⟨hj,rfl⟩:=List.getElem?_eq_some_iff.1 hb;exact ⟨hj,rfl⟩
def Rd (w:World) (v:Value) (l:List UInt8):Prop:=
 (l=[]∧(v=.slice none 0 0∨∃a c,v=.slice (some a) 0 c))∨
 ∃b off c,v=.slice (some ⟨b,off,none⟩) l.length c∧l.length≤c∧c≤maxLen∧∀j,(h:j<l.length)→w.cell? ⟨b,off+j,none⟩=some (.int .u8 (l[j]).toNat)
theorem Rd.carry {w w':World} {v:Value} {l:List UInt8} (h:Rd w v l) (hb:Below w.heap.size w w'):Rd w' v l:=by
 rcases h with h | ⟨b,off,c,rfl,hc,hm,hcell⟩
 ·exact .inl h
 ·refine .inr ⟨b,off,c,rfl,hc,hm,fun j hj=>?_⟩
  rw [hb.cell (World.block_lt_of_cell? w _ (hcell j hj))];exact hcell j hj
theorem Rd.alloc {w:World} {v:Value} {l:List UInt8} (h:Rd w v l) (o:Obj):Rd (w.alloc o) v l:=
 h.carry ((Below.refl _ _).alloc (Nat.le_refl _) o)
theorem qjv {w:World} {base:Nat} {e:TypeId} {v:Value} {l:List UInt8} (h:w.ownsRow base e 1 v l.length (u8v l)):Rd w v l:=by
 rcases h.2 with ⟨rfl,hn⟩ | ⟨g,cap,cur,rfl,_,hg,hn,hm,hsz,htake⟩
 ·exact .inl ⟨List.length_eq_zero_iff.1 hn,.inl rfl⟩
 ·refine .inr ⟨g,0,cap,rfl,hn,hm,fun j hj=>?_⟩
  have:=h.cells (g:=g) rfl j (.int .u8 (l[j]).toNat) (by simp [u8v,List.getElem?_eq_getElem hj])
  simpa [Addr.add_lit] using this
section
variable {P:Program}
theorem qjw {ops:Array Oper} {rest:List Oper} {o:Oper} {a:Act} {Q:Exit→Act→World→Prop} (W wr:World) (hgd:o.guard=none) (s x:Operand) (t:TypeId)
  (ho:o.op=.call {callee:=.builtin .append,args:=#[s,x],argTypes:=#[t,t]})
  (base:Nat) (e:TypeId) (ht:P.underlying t=some (.slice e)) (hi:(P.info? e).map (fun i=>(i.zero,i.size,i.bytes))=some (some (.int .u8 0),1,1))
  (v:Value) (l:List UInt8) (hown:wr.ownsRow base e 1 v l.length (u8v l)) (hs:a.eval s=v) (hbel:Below base W wr) (hb:base≤W.heap.size)
  (z:Int) (c:UInt8) (hz:z=c.toNat) (hx:a.eval x=.slice (some ⟨wr.heap.size,0,none⟩) 1 1) (hlen:l.length+1≤1000000000000)
  (h:∀v' w',w'.ownsRow base e 1 v' (l++[c]).length (u8v (l++[c]))→Below base W w'→wpList P ops Q rest (a.put o.dst v') w'):
  wpList P ops Q (o::rest) a (wr.alloc (.cells #[.int .u8 z] e)):=by
 obtain ⟨i0,hi,hz0,hz1,hz2⟩:=info_parts hi;subst hz
 have hbw:base≤wr.heap.size:=by have:=hbel.size;omega
 refine wpList_append_own _ hgd s x t ho base e i0 (.int .u8 0) 1 1 ht hi hz0 hz1 hz2 rfl (by decide) v l.length (u8v l) hs (hown.alloc _) ⟨wr.heap.size,0,none⟩ 1 1 [.int .u8 c.toNat] hx rfl ?_ ?_ ?_ ?_ ?_ ?_
 ·intro j u hj
  match j,hj with
  | 0,hj=>simp at hj;subst hj;simp [Addr.add]
 ·intro u hu;simp at hu;subst hu;rfl
 ·unfold maxLen;omega
 ·omega
 ·simp;omega
 ·intro v' w' hown' hg _
  refine h v' w' (by simpa [u8v] using hown') ((hbel.alloc hbw _).grown hg (by simp;omega) fun k hk=>(hown.lt k hk).1)
theorem qjx {ops:Array Oper} {rest:List Oper} {o:Oper} {a:Act} {Q:Exit→Act→World→Prop} (W wr:World) (hgd:o.guard=none) (s x:Operand) (t:TypeId)
  (ho:o.op=.call {callee:=.builtin .append,args:=#[s,x],argTypes:=#[t,t]})
  (base:Nat) (e:TypeId) (ht:P.underlying t=some (.slice e)) (hi:(P.info? e).map (fun i=>(i.zero,i.size,i.bytes))=some (some (.int .u8 0),1,1))
  (v:Value) (l:List UInt8) (hown:wr.ownsRow base e 1 v l.length (u8v l)) (hs:a.eval s=v) (hbel:Below base W wr) (hb:base≤W.heap.size)
  (b off c m:Nat) (l2:List UInt8) (hm:l2.length=m) (hx:a.eval x=.slice (some ⟨b,off,none⟩) m c) (hcell:∀j,(h:j<l2.length)→wr.cell? ⟨b,off+j,none⟩=some (.int .u8 (l2[j]).toNat)) (hlen:l.length+l2.length≤1000000000000)
  (h:∀v' w',w'.ownsRow base e 1 v' (l++l2).length (u8v (l++l2))→Below base W w'→(v'=.slice none 0 0↔v=.slice none 0 0∧l2.length=0)→wpList P ops Q rest (a.put o.dst v') w'):
  wpList P ops Q (o::rest) a wr:=by
 obtain ⟨i0,hi,hz0,hz1,hz2⟩:=info_parts hi;subst hm
 have hbw:base≤wr.heap.size:=by have:=hbel.size;omega
 refine wpList_append_own _ hgd s x t ho base e i0 (.int .u8 0) 1 1 ht hi hz0 hz1 hz2 rfl (by decide) v l.length (u8v l) hs hown ⟨b,off,none⟩ l2.length c (u8v l2) hx (by simp) ?_ (qdt l2) ?_ ?_ ?_ ?_
 ·intro j u hj
  obtain ⟨hj',rfl⟩:=qdf l2 j u hj
  simpa [Addr.add_lit] using hcell j hj'
 ·unfold maxLen;omega
 ·omega
 ·omega
 ·intro v' w' hown' hg hnil
  refine h v' w' (by simpa [qh6] using hown') (hbel.grown hg (by omega) fun k hk=>(hown.lt k hk).1) hnil
theorem qix {ops:Array Oper} {rest:List Oper} {o:Oper} {a:Act} {Q:Exit→Act→World→Prop} (W wr:World) (hgd:o.guard=none) (s x:Operand) (t:TypeId)
  (ho:o.op=.call {callee:=.builtin .append,args:=#[s,x],argTypes:=#[t,t]})
  (base:Nat) (e:TypeId) (ht:P.underlying t=some (.slice e)) (hi:(P.info? e).map (fun i=>(i.zero,i.size,i.bytes))=some (some (.int .u8 0),1,1))
  (v:Value) (l:List UInt8) (hown:wr.ownsRow base e 1 v l.length (u8v l)) (hs:a.eval s=v) (hbel:Below base W wr) (hb:base≤W.heap.size)
  (vx:Value) (l2:List UInt8) (hrd:Rd wr vx l2) (hx:a.eval x=vx) (hlen:l.length+l2.length≤1000000000000)
  (h:∀v' w',w'.ownsRow base e 1 v' (l++l2).length (u8v (l++l2))→Below base W w'→wpList P ops Q rest (a.put o.dst v') w'):
  wpList P ops Q (o::rest) a wr:=by
 rcases hrd with ⟨rfl,rfl | ⟨ad,c,rfl⟩⟩ | ⟨b,off,c,rfl,hc,hm,hcell⟩
 ·obtain ⟨i0,hi,hz0,hz1,hz2⟩:=info_parts hi
  refine wpList_append_own_none hgd s x t ho base e i0 1 ht hi v l.length (u8v l) hs hown hx (h _ _ ?_ hbel)
  simpa using hown
 ·obtain ⟨i0,hi,hz0,hz1,hz2⟩:=info_parts hi
  have hbw:base≤wr.heap.size:=by have:=hbel.size;omega
  refine wpList_append_own _ hgd s x t ho base e i0 (.int .u8 0) 1 1 ht hi hz0 hz1 hz2 rfl (by decide) v l.length (u8v l) hs hown ad 0 c [] hx rfl ?_ ?_ ?_ ?_ ?_ ?_
  ·intro j u hj;simp at hj
  ·intro u hu;simp at hu
  ·unfold maxLen;simp at hlen;omega
  ·simp at hlen;omega
  ·omega
  ·intro v' w' hown' hg _
   exact h v' w' (by simpa using hown') (hbel.grown hg (by omega) fun k hk=>(hown.lt k hk).1)
 ·exact qjx W wr hgd s x t ho base e ht hi v l hown hs hbel hb b off c l2.length l2 rfl hx hcell hlen fun v' w' h1 h2 _=>h v' w' h1 h2
theorem qms {ops:Array Oper} {rest:List Oper} {o:Oper} {a:Act} {Q:Exit→Act→World→Prop} (W wr:World) (hgd:o.guard=none) (s x:Operand) (t u:TypeId)
  (ho:o.op=.call {callee:=.builtin .append,args:=#[s,x],argTypes:=#[t,u]})
  (base:Nat) (e:TypeId) (ht:P.underlying t=some (.slice e)) (hu:P.underlying u=some .string) (hi:(P.info? e).map (fun i=>(i.zero,i.size,i.bytes))=some (some (.int .u8 0),1,1))
  (v:Value) (l:List UInt8) (hown:wr.ownsRow base e 1 v l.length (u8v l)) (hs:a.eval s=v) (hbel:Below base W wr) (hb:base≤W.heap.size)
  (st:ByteArray) (hx:a.eval x=.string st) (hlen:l.length+st.size≤1000000000000)
  (h:∀v' w',w'.ownsRow base e 1 v' (l++st.data.toList).length (u8v (l++st.data.toList))→Below base W w'→wpList P ops Q rest (a.put o.dst v') w'):
  wpList P ops Q (o::rest) a wr:=by
 obtain ⟨i0,hi,hz0,hz1,hz2⟩:=info_parts hi
 have hbw:base≤wr.heap.size:=by have:=hbel.size;omega
 have hsz:st.data.toList.length=st.size:=by rw [Array.length_toList];rfl
 refine Lib.wpList_append_own_string _ hgd s x t u ho base e i0 ht hu hi hz0 hz1 hz2 v l.length (u8v l) hs hown st hx ?_ ?_ ?_ ?_
 ·unfold maxLen;omega
 ·omega
 ·omega
 ·intro v' w' hown' hg _
  refine h v' w' ?_ (hbel.grown hg (by omega) fun k hk=>(hown.lt k hk).1)
  rw [List.length_append,hsz,qh6];exact hown'
def bs (l:List UInt8):ByteArray:=⟨l.toArray⟩
@[simp] theorem qjy (l:List UInt8):(bs l).data.toList=l:=by simp [bs]
theorem qev (l:List UInt8):(bs l).size=l.length:=by show l.toArray.size=l.length;exact List.size_toArray
theorem qab1 (s:ByteArray):bs s.data.toList=s:=by cases s;simp [bs]
theorem qoi (l:List UInt8):strOfNums (l.map fun x=>(x.toNat:Int))=bs l:=by
 have h:=strOfNums_data (l.map fun x=>(x.toNat:Int));rw [←qab1 (strOfNums _),h]
 congr 1
 rw [List.map_map]
 have:((fun n:Int=>UInt8.ofNat n.toNat) ∘ fun x:UInt8=>(x.toNat:Int))=id:=by
  funext x;simp
 rw [this,List.map_id]
theorem qh7 {w:World} {v:Value} {l:List UInt8} (t e d:TypeId) (ht:P.underlying t=some (.slice e)) (he:P.underlying e=some (.int .u8)) (hd:P.underlying d=some .string) (h:Rd w v l):
  (convert t d v).run P w=.ok (.string (bs l)) w:=by
 rcases h with ⟨rfl,rfl | ⟨a,c,rfl⟩⟩ | ⟨b,off,c,rfl,hc,hm,hcell⟩
 ·rw [run_convert_bytes_string w t d e none 0 0 ht he hd]
  simp [Conv.bytesToString];rfl
 ·rw [run_convert_bytes_string w t d e (some a) 0 c ht he hd,run_bytesToString w a 0 c [] (by simp [loadCells];rfl)]
  rfl
 ·rw [run_convert_bytes_arg w t e ht he b off l.length c (l.map fun x=>(x.toNat:Int)) (by simp) (fun i hi=>by
   rw [hcell i hi];simp [List.getD,List.getElem?_eq_getElem hi]) d hd,qoi]
end
theorem sA (l:List Value) (i:Nat) (v:Value):l.toArray.setIfInBounds i v=(l.set i v).toArray:=by simp
theorem sB (x y:Value) (l:List Value):(x::l).set 0 y=y::l:=rfl
theorem sC (x y:Value) (l:List Value) (i:Nat):(x::l).set (i+1) y=x::l.set i y:=rfl
theorem bT {w a c:World} (A:Hid (Below w.heap.size w a)) (b:Below a.heap.size a c):Hid (Below w.heap.size w c):=A.out.trans (b.mono A.out.size)
end Go.Proofs.YtpkdiododlhipaaGreat
