/-
  Layer 5 in plain words: names, files, directories; lists of them.
-/
import Derived.Test.YtmeaiocohalphaaGreatDoorAa
import Derived.WalkSmall
import Derived.Laws.AppendOwnNone
import Derived.OpenShut
import Derived.Lib.Bytealg
namespace Go.Proofs.YtmeaiocohalphaaGreatDoor
open Go.RowKit
set_option linter.all false
variable {i k n:Nat}{c:UInt8}{r s:az}{w:World}{v:Value}{b:Int}{α:Type}
def GZ:Nat->Nat->az
 |0,n=>[UInt8.ofNat n]
 |f+1,n=>if n<128 then[UInt8.ofNat n]else UInt8.ofNat (n%128+128)::GZ f (n / 128)
theorem JJ(h:n<128):∀f,GZ f n=[UInt8.ofNat n]
 |0=>rfl
 |f+1=>by simp[GZ,h]
theorem qvw:∀f g n:Nat,n<=f->n<=g->GZ f n=GZ g n
 |0,g,n,h,_=>by
  obtain rfl:n=0:=by omega
  rw[JJ (by omega),JJ (by omega)]
 |f+1,0,n,_,h=>by
  obtain rfl:n=0:=by omega
  rw[JJ (by omega),JJ (by omega)]
 |f+1,g+1,n,h,k=>by
  by_cases hl:n<128
  ·rw[JJ hl,JJ hl]
  simp only[GZ,hl,if_false]
  rw[qvw f g (n / 128) (by omega) (by omega)]
def sm (n:Nat):az:=GZ n n
theorem Eg(h:n<128):sm n=[UInt8.ofNat n]:=JJ h n
theorem PQ(h:128<=n):sm n=UInt8.ofNat (n%128+128)::sm (n / 128):=by
 unfold sm;obtain⟨m,rfl⟩:∃m,n=m+1:=⟨n-1,by omega⟩;rw[GZ,if_neg (by omega),qvw m ((m+1) / 128) _ (by omega) (by omega)]
theorem Zz(n:Nat):1<=(sm n).length:=by
 by_cases h:n<128
 ·rw[Eg h];simp
 rw[PQ (by omega)];simp
theorem ZA:∀(k n:Nat),n<128^k->(sm n).length<=max 1 k
 |0,n,h=>by simp at h;subst h;rw[Eg (by omega)];simp
 |k+1,n,h=>by
  by_cases a:n<128
  ·rw[Eg a];simp
  rw[PQ (by omega)]
  have:=ZA k (n / 128) (by rw[Nat.pow_succ]at h;omega)
  have b:1<=k:=by
   rcases k with _|k
   ·simp at h;omega
   omega
  simp only[Xb0];omega
theorem iP(h:n<18446744073709551616):(sm n).length<=10:=by
 have:=ZA 10 n (by omega);omega
theorem Q3(m:Nat):(m:Int)%256=((UInt8.ofNat m).toNat:Int):=by
 rw[UInt8.toNat_ofNat'];omega
theorem G5(m:Nat)(h:m<256):(m:Int)=((UInt8.ofNat m).toNat:Int):=by
 rw[UInt8.toNat_ofNat'];omega
theorem qz9:∀x:Fin 256,x.val |||128=x.val%128+128:=by decide+kernel
theorem Q4(m:Nat):bits BinOp.or IntKind.u8 ((m:Int)%256) 128=((UInt8.ofNat (m%128+128)).toNat:Int):=by
 have h:=u8_or_nat (m%256) 128 (by omega) (by omega);have e:(((m%256:Nat):Int))=(m:Int)%256:=by omega
 rw[e]at h;have a:=qz9 ⟨m%256,by omega⟩;simp only at a
 rw[a]at h;rw[UInt8.toNat_ofNat'];rw[show(128:Int)=((128:Nat):Int)from rfl,h];omega
def bO (l:az):List Value:=l.map fun b=>Value.int .u8 b.toNat
@[simp] theorem JK (l:az):(bO l).length=l.length:=by simp[bO]
theorem PR(a b:az):bO (a++b)=bO a++bO b:=by simp[bO]
def iK:az->Nat->Nat->Option (Nat×Nat)
 |[],_,_=>none
 |c::r,i,acc=>
  if i=9∧1<c.toNat then none
  else if 128<=c.toNat then iK r (i+1) (acc+(c.toNat%128)*128^i)
  else if c.toNat=0∧0<i then none
  else some (acc+c.toNat*128^i,i+1)
def rd (l:az):Option (Nat×Nat):=iK l 0 0
def nZ:Option (Nat×Nat)->Value
 |none=>.tuple #[.int .u64 0,.int .i64 0,.int .i64 8]
 |some (n,k)=>.tuple #[.int .u64 n,.int .i64 k,.int .i64 0]
theorem ZB{a:Nat}(h:1<c.toNat):iK (c::r) 9 a=none:=by simp[iK,h]
theorem Jl{a:Nat}(b:i≠9)(h:128<=c.toNat):iK (c::r) i a=iK r (i+1) (a+(c.toNat%128)*128^i):=by
 simp[iK,b,h]
theorem XM{a:Nat}(b:c.toNat=0)(hi:0<i):iK (c::r) i a=none:=by
 simp[iK,b,hi]
theorem Q5{a:Nat}(b:¬(i=9∧1<c.toNat))(h:c.toNat<128)(d:¬(c.toNat=0∧0<i)):iK (c::r) i a=some (a+c.toNat*128^i,i+1):=by
 rw[iK,if_neg b,if_neg (by omega),if_neg d]
theorem JL(k:Nat):2^(7*k)=128^k:=by rw[Nat.pow_mul]
theorem Q6(a k x:Nat)(c:a<128^k)(d:k<=8):
  bits BinOp.or IntKind.u64 (a:Int) (IntKind.u64.wrap ((x:Int)%128*2^(7*k)))=((a+x%128*128^k:Nat):Int):=by
 have f:128^k<=72057594037927936:=aG (Nat.pow_le_pow_right (by decide) d) (by decide);have e:((x:Int)%128*2^(7*k))=((x%128*128^k:Nat):Int):=by
  rw[<-JL];push_cast;rfl
 have g:x%128*128^k<=127*72057594037927936:=Nat.mul_le_mul (by omega) f;rw[e,IntKind.wrap_u64,show((x%128*128^k:Nat):Int)%18446744073709551616=((x%128*128^k:Nat):Int)by omega];rw[u64_or_nat _ _ (by omega) (by omega)];congr 1
 have h:=Nat.two_pow_add_eq_or_of_lt (i:=7*k) (b:=a) (by rw[JL];exact c) (x%128);rw[JL,Nat.mul_comm]at h;rw[Nat.or_comm,<-h,Nat.add_comm]
theorem qajv(a x:Nat)(c:a<128^9)(d:x<=1):
  bits BinOp.or IntKind.u64 (a:Int) ((x:Int)%128*9223372036854775808)=((a+x*128^9:Nat):Int):=by
 have e:((x:Int)%128*9223372036854775808)=((x*9223372036854775808:Nat):Int):=by omega
 rw[e,u64_or_nat _ _ (by omega) (by omega)];congr 1
 have h:=Nat.two_pow_add_eq_or_of_lt (i:=63) (b:=a) (by omega) x;rw[Nat.or_comm,show x*9223372036854775808=2^63*x by omega,<-h];omega
theorem qvy{a x:Nat}(h:a<128^k):a+x%128*128^k<128^(k+1):=by
 rw[Nat.pow_succ];have:x%128*128^k<=127*128^k:=Nat.mul_le_mul_right _ (by omega)
 omega
theorem JM(l:az):∀u∈bO l,u.oneCell'=true:=by
 intro u a;simp only[bO,List.mem_map]at a;obtain⟨b,_,rfl⟩:=a;rfl
theorem JN(l:az)(j:Nat)(u:Value)(h:(bO l)[j]? =some u):∃a:j<l.length,u=.int .u8 (l[j]).toNat:=by
 simp only[bO,List.getElem?_map,Option.map_eq_some_iff]at h;obtain⟨b,c,rfl⟩:=h;obtain⟨a,rfl⟩:=List.getElem?_eq_some_iff.1 c;exact⟨a,rfl⟩
def Rd (w:World) (v:Value) (l:az):Prop:=
 (l=[]∧(v=.slice none 0 0∨∃a c,v=.slice (some a) 0 c))∨
 ∃b off c,v=.slice (some ⟨b,off,none⟩) l.length c∧l.length<=c∧c<=maxLen∧∀j,(h:j<l.length)->w.cell? ⟨b,off+j,none⟩=some (.int .u8 (l[j]).toNat)
theorem Rd.a{w':World}{l:az}(h:Rd w v l)(hb:ah w w'):Rd w' v l:=by
 rcases h with h|⟨b,d,c,rfl,f,g,a⟩
 ·exact .inl h
 refine .inr ⟨b,d,c,rfl,f,g,fun j e=>?_⟩;rw[hb.cell (Xa6 w _ (a j e))];exact a j e
theorem Rd.alloc{l:az}(h:Rd w v l)(o:Obj):Rd (w.alloc o) v l:=
 h.a (aF.alloc aL o)
theorem BL{base:Nat}{e:TypeId}{l:az}(h:w.ownsRow base e 1 v l.length (bO l)):Rd w v l:=by
 rcases h.2 with⟨rfl,a⟩|⟨g,cap,c,rfl,_,k,a,d,f,b⟩
 ·exact .inl ⟨Xb6.1 a,.inl rfl⟩
 refine .inr ⟨g,0,cap,rfl,a,d,fun j i=>?_⟩;have:=h.cells (g:=g) rfl j (.int .u8 (l[j]).toNat) (by simp[bO,List.getElem?_eq_getElem i])
 simpa [Addr.add_lit]using this
section
variable {P:Program}
theorem Q7{g:Array Oper}{rest:List Oper}{o:Oper}{a:Act}{Q:Exit->Act->World->Prop}(W wr:World)(n:o.guard=none)(s x:Operand)(t:TypeId)
  (B:o.op=.call {callee:=.builtin .append,args:=#[s,x],argTypes:=#[t,t]})
  (base:Nat) (e:TypeId) (C:P.underlying t=some (.slice e)) (hi:(P.info? e).map (fun i=>(i.zero,i.size,i.bytes))=some (some (.int .u8 0),1,1))
  (v:Value) (l:az) (b:wr.ownsRow base e 1 v l.length (bO l)) (D:a.eval s=v) (d:Below base W wr) (hb:base<=W.heap.size)
  (z:Int) (c:UInt8) (E:z=c.toNat) (F:a.eval x=.slice (some ⟨wr.heap.size,0,none⟩) 1 1) (y:l.length+1<=1000000000000)
  (h:∀v' w',w'.ownsRow base e 1 v' (l++[c]).length (bO (l++[c]))->Below base W w'->wpList P g Q rest (a.put o.dst v') w'):
  wpList P g Q (o::rest) a (wr.alloc (.cells #[.int .u8 z] e)):=by
 obtain⟨G,hi,p,q,r⟩:=info_parts hi;subst E;have w:base<=wr.heap.size:=by have:=d.size;omega
 refine wpList_append_own _ n s x t B base e G (.int .u8 0) 1 1 C hi p q r rfl (by decide) v l.length (bO l) D (b.alloc _) ⟨wr.heap.size,0,none⟩ 1 1 [.int .u8 c.toNat] F rfl ?_ ?_ ?_ ?_ ?_ ?_
 ·intro j u m
  match j,m with
  |0,m=>simp at m;subst m;simp[Addr.add]
 ·intro u A;simp at A;subst A;rfl
 ·unfold maxLen;omega
 ·omega
 ·simp;omega
 intro v' w' f H _;refine h v' w' (by simpa [bO]using f) ((d.alloc w _).grown H (by simp;omega) fun k I=>(b.lt k I).1)
theorem Q8{r:Array Oper}{rest:List Oper}{o:Oper}{a:Act}{Q:Exit->Act->World->Prop}(W wr:World)(y:o.guard=none)(s x:Operand)(t:TypeId)
  (E:o.op=.call {callee:=.builtin .append,args:=#[s,x],argTypes:=#[t,t]})
  (base:Nat) (e:TypeId) (F:P.underlying t=some (.slice e)) (hi:(P.info? e).map (fun i=>(i.zero,i.size,i.bytes))=some (some (.int .u8 0),1,1))
  (v:Value) (l:az) (f:wr.ownsRow base e 1 v l.length (bO l)) (G:a.eval s=v) (g:Below base W wr) (hb:base<=W.heap.size)
  (b n c m:Nat) (d:az) (H:d.length=m) (I:a.eval x=.slice (some ⟨b,n,none⟩) m c) (p:∀j,(h:j<d.length)->wr.cell? ⟨b,n+j,none⟩=some (.int .u8 (d[j]).toNat)) (D:l.length+d.length<=1000000000000)
  (h:∀v' w',w'.ownsRow base e 1 v' (l++d).length (bO (l++d))->Below base W w'->(v'=.slice none 0 0↔v=.slice none 0 0∧d.length=0)->wpList P r Q rest (a.put o.dst v') w'):
  wpList P r Q (o::rest) a wr:=by
 obtain⟨J,hi,z,A,B⟩:=info_parts hi;subst H;have K:base<=wr.heap.size:=by have:=g.size;omega
 refine wpList_append_own _ y s x t E base e J (.int .u8 0) 1 1 F hi z A B rfl (by decide) v l.length (bO l) G f ⟨b,n,none⟩ d.length c (bO d) I (by simp) ?_ (JM d) ?_ ?_ ?_ ?_
 ·intro j u L
  obtain⟨C,rfl⟩:=JN d j u L;simpa [Addr.add_lit]using p j C
 ·unfold maxLen;omega
 ·omega
 ·omega
 intro v' w' q M w;refine h v' w' (by simpa [PR]using q) (g.grown M (by omega) fun k N=>(f.lt k N).1) w
theorem Wh{r:Array Oper}{rest:List Oper}{o:Oper}{a:Act}{Q:Exit->Act->World->Prop}(W wr:World)(m:o.guard=none)(s x:Operand)(t:TypeId)
  (A:o.op=.call {callee:=.builtin .append,args:=#[s,x],argTypes:=#[t,t]})
  (base:Nat) (e:TypeId) (B:P.underlying t=some (.slice e)) (hi:(P.info? e).map (fun i=>(i.zero,i.size,i.bytes))=some (some (.int .u8 0),1,1))
  (v:Value) (l:az) (d:wr.ownsRow base e 1 v l.length (bO l)) (C:a.eval s=v) (f:Below base W wr) (hb:base<=W.heap.size)
  (H:Value) (q:az) (D:Rd wr H q) (E:a.eval x=H) (g:l.length+q.length<=1000000000000)
  (h:∀v' w',w'.ownsRow base e 1 v' (l++q).length (bO (l++q))->Below base W w'->wpList P r Q rest (a.put o.dst v') w'):
  wpList P r Q (o::rest) a wr:=by
 rcases D with⟨rfl,rfl|⟨I,c,rfl⟩⟩|⟨b,F,c,rfl,S,T,n⟩
 ·obtain⟨G,hi,w,y,z⟩:=info_parts hi
  refine wpList_append_own_none m s x t A base e G 1 B hi v l.length (bO l) C d E (h _ _ ?_ f);simpa using d
 ·obtain⟨G,hi,w,y,z⟩:=info_parts hi
  have J:base<=wr.heap.size:=by have:=f.size;omega
  refine wpList_append_own _ m s x t A base e G (.int .u8 0) 1 1 B hi w y z rfl (by decide) v l.length (bO l) C d I 0 c [] E rfl ?_ ?_ ?_ ?_ ?_ ?_
  ·intro j u K;simp at K
  ·intro u L;simp at L
  ·unfold maxLen;simp at g;omega
  ·simp at g;omega
  ·omega
  intro v' w' p M _;exact h v' w' (by simpa using p) (f.grown M (by omega) fun k N=>(d.lt k N).1)
 exact Q8 W wr m s x t A base e B hi v l d C f hb b F c q.length q rfl E n g fun v' w' O R _=>h v' w' O R
theorem qhy{g:Array Oper}{rest:List Oper}{o:Oper}{a:Act}{Q:Exit->Act->World->Prop}(W wr:World)(j:o.guard=none)(s x:Operand)(t u:TypeId)
  (w:o.op=.call {callee:=.builtin .append,args:=#[s,x],argTypes:=#[t,u]})
  (base:Nat) (e:TypeId) (y:P.underlying t=some (.slice e)) (z:P.underlying u=some .string) (hi:(P.info? e).map (fun i=>(i.zero,i.size,i.bytes))=some (some (.int .u8 0),1,1))
  (v:Value) (l:az) (b:wr.ownsRow base e 1 v l.length (bO l)) (A:a.eval s=v) (c:Below base W wr) (hb:base<=W.heap.size)
  (d:ByteArray) (B:a.eval x=.string d) (r:l.length+d.size<=1000000000000)
  (h:∀v' w',w'.ownsRow base e 1 v' (l++d.data.toList).length (bO (l++d.data.toList))->Below base W w'->wpList P g Q rest (a.put o.dst v') w'):
  wpList P g Q (o::rest) a wr:=by
 obtain⟨C,hi,m,n,p⟩:=info_parts hi;have D:base<=wr.heap.size:=by have:=c.size;omega
 have q:d.data.toList.length=d.size:=by rw[Xd2];rfl
 refine Lib.wpList_append_own_string _ j s x t u w base e C y z hi m n p v l.length (bO l) A b d B ?_ ?_ ?_ ?_
 ·unfold maxLen;omega
 ·omega
 ·omega
 intro v' w' f E _;refine h v' w' ?_ (c.grown E (by omega) fun k F=>(b.lt k F).1)
 rw[Xa0,q,PR];exact f
def bs (l:az):ByteArray:=⟨l.toArray⟩
@[simp] theorem zk (l:az):(bs l).data.toList=l:=by simp[bs]
theorem rf(l:az):(bs l).size=l.length:=by show l.toArray.size=l.length;exact List.size_toArray
theorem JO(s:ByteArray):bs s.data.toList=s:=by cases s;simp[bs]
theorem qq3(l:az):strOfNums (l.map fun x=>(x.toNat:Int))=bs l:=by
 have h:=strOfNums_data (l.map fun x=>(x.toNat:Int));rw[<-JO (strOfNums _),h];congr 1
 rw[List.map_map];have:((fun n:Int=>UInt8.ofNat n.toNat) ∘ fun x:UInt8=>(x.toNat:Int))=id:=by
  funext x;simp
 rw[this,List.map_id]
theorem sD{w:World}{v:Value}{l:az}(t e d:TypeId)(g:P.underlying t=some (.slice e))(j:P.underlying e=some (.int .u8))(hd:P.underlying d=some .string)(h:Rd w v l):
  (convert t d v).run P w=.ok (.string (bs l)) w:=by
 rcases h with⟨rfl,rfl|⟨a,c,rfl⟩⟩|⟨b,k,c,rfl,m,n,f⟩
 ·rw[run_convert_bytes_string w t d e none 0 0 g j hd]
  simp[Conv.bytesToString];rfl
 ·rw[run_convert_bytes_string w t d e (some a) 0 c g j hd,run_bytesToString w a 0 c [] (by simp[loadCells];rfl)]
  rfl
 rw[run_convert_bytes_arg w t e g j b k l.length c (l.map fun x=>(x.toNat:Int)) (by simp) (fun i hi=>by
  rw[f i hi];simp[List.getD,List.getElem?_eq_getElem hi]) d hd,qq3]
end
abbrev Ex:=Int×Int
def jg (x:Ex):Prop:=-9223372036854775808<=x.1∧x.1<=9223372036854775807∧-9223372036854775808<=x.2∧x.2<=9223372036854775807
def eP (x:Ex):Bool:=decide (0<=x.1) && decide (1<=x.2) && decide (x.1+x.2<=4096)
theorem sF(x:Ex):eP x=true↔0<=x.1∧1<=x.2∧x.1+x.2<=4096:=by simp[eP,and_assoc]
def dE (l:List Ex):Int:=if 4096<l.length then 4 else if l.all eP then 0 else 8
def iQ (x:Ex) (n:Int):Bool:=decide (x.1<=n) && decide (n<x.1+x.2)
def ek (l:List Ex) (n:Int):Bool:=l.any fun x=>iQ x n
def pG (a b:Ex):Bool:=decide (a.1<b.1+b.2) && decide (b.1<a.1+a.2)
def mf:List Ex->Bool
 |[]=>true
 |x::r=>r.all (fun y=>!pG y x) && mf r
def dY (l:List Ex):Int:=if dE l≠0 then dE l else if mf l then 0 else 8
def gJ (l:List Ex):Int:=(l.map (·.2)).sum
def gZ (x:Ex) (k:Nat):List Int:=(List.range k).map fun (i:Nat)=>x.1+(i:Int)
def iy (l:List Ex):List Int:=l.flatMap fun x=>gZ x x.2.toNat
def Ad (l:List Ex) (n:Int):List Ex:=
 match l.getLast? with
 |none=>[(n,1)]
 |some x=>if x.1+x.2=n then l.dropLast++[(x.1,x.2+1)]else l++[(n,1)]
def kG (u:Int->Bool) (a:Int):Nat->List Ex
 |0=>[]
 |k+1=>if u (a+k)then kG u a k else Ad (kG u a k) (a+k)
def kH (a b:Int) (l:List Ex):Int:=if a<0∨b<a∨4096<b then 2 else dE l
def jN (a b:Int) (l:List Ex):List Ex:=if kH a b l=0 then kG (ek l) a (b-a).toNat else[]
def fE:List Ex->Int->Option (List Ex)
 |[],_=>none
 |x::r,w=>if w<=x.2 then some [(x.1,w)]else(fE r (w-x.2)).map (x::·)
def sG (l:List Ex) (w:Int):Int:=if(fE l w).isSome then 0 else 40
def lS (a b:Int) (l:List Ex) (w:Int):Int:=
 if kH a b l≠0 then kH a b l else if w<1∨4096<w then 2 else sG (jN a b l) w
def kg (a b:Int) (l:List Ex) (w:Int):List Ex:=
 if kH a b l≠0 then[]else if w<1∨4096<w then[]else(fE (jN a b l) w).getD []
theorem wL{l:List Ex}(h:dE l=0):l.length<=4096∧∀x∈l,0<=x.1∧1<=x.2∧x.1+x.2<=4096:=by
 unfold dE at h;split at h
 ·cases h
 split at h
 ·rename_i h1 h2
  rw[Xc5]at h2;exact⟨by omega,fun x a=>(sF x).1 (h2 x a)⟩
 cases h
theorem Q9{l:List Ex}(h:l.length<=4096)(a:∀x∈l,0<=x.1∧1<=x.2∧x.1+x.2<=4096):dE l=0:=by
 unfold dE;rw[if_neg (by omega),if_pos];rw[Xc5];exact fun x b=>(sF x).2 (a x b)
theorem qm3(l:List Ex):(dE l=4∧4096<l.length)∨(dE l=8∧l.length<=4096∧∃x∈l,eP x=false)∨(dE l=0∧l.length<=4096∧∀x∈l,eP x=true):=by
 unfold dE;by_cases h:4096<l.length
 ·exact .inl ⟨if_pos h,h⟩
 rw[if_neg h]
 cases h2:l.all eP with
 |true=>exact .inr (.inr ⟨if_pos rfl,by omega,by rwa [Xc5]at h2⟩)
 |false=>
  refine .inr (.inl ⟨if_neg (by simp),by omega, ?_⟩);rw[List.all_eq_false]at h2;obtain⟨x,a,e⟩:=h2;exact⟨x,a,by simpa using e⟩
theorem qoz{l:List Ex}(b:k<l.length)(hl:l.length<=4096)(h:eP l[k]=false):dE l=8:=by
 rcases qm3 l with⟨_,a⟩|⟨a,_⟩|⟨_,_,a⟩
 ·omega
 ·exact a
 rw[a _ (Xa3 b)]at h;cases h
theorem qk2{l:List Ex}(hl:l.length<=4096)(h:∀x∈l.take l.length,eP x=true):dE l=0:=
 Q9 hl fun x a=>(sF x).1 (h x (by simpa using a))
theorem qm4(a b:Ex):pG a b=pG b a:=by unfold pG;rw[Bool.and_comm]
theorem qo0{a b:Ex}(c:1<=a.2)(hb:1<=b.2):pG a b=true↔∃n,iQ a n=true∧iQ b n=true:=by
 simp only[pG,iQ,Xe0,decide_eq_true_eq];constructor
 ·intro h
  exact⟨max a.1 b.1,⟨by omega,by omega⟩,by omega,by omega⟩
 rintro⟨n,d,e⟩
 omega
theorem qm5(l m:List Ex):mf (l++m)=(mf l && mf m && m.all fun y=>l.all fun x=>!pG y x):=by
 induction l with
 |nil=>simp[mf]
 |cons x r ih=>
  rw[List.cons_append,mf,ih,mf];rw[Bool.eq_iff_iff];simp only[List.all_append,Xe0,Xc5,List.all_cons,Bool.not_eq_true'];constructor
  ·rintro⟨⟨c,f⟩,⟨d,e⟩,b⟩
   exact⟨⟨⟨c,d⟩,e⟩,fun y a=>⟨f y a,b y a⟩⟩
  rintro⟨⟨⟨c,d⟩,e⟩,b⟩
  exact⟨⟨c,fun y a=>(b y a).1⟩,⟨d,e⟩,fun y a=>(b y a).2⟩
theorem PS(l:List Ex)(x:Ex):mf (l++[x])=(mf l && l.all fun y=>!pG x y):=by
 rw[qm5];simp[mf]
theorem qw(l:List α)(k:Nat)(h:k<l.length):l.take (k+1)=l.take k++[l[k]]:=by
 rw[List.take_add_one,List.getElem?_eq_getElem h];rfl
theorem qm6{l:List Ex}(b:k<=l.length)(a:dE l=0)(h:mf (l.take k)=false):dY l=8:=by
 have:mf l=false:=by
  rw[<-Xc0 k l,qm5,h];simp
 unfold dY;rw[if_neg (by simp[a]),this];rfl
theorem ZC{l:List Ex}(a:dE l≠0):dY l=dE l:=by unfold dY;rw[if_pos a]
theorem ZE{l:List Ex}(a:dE l=0)(h:mf l=true):dY l=0:=by
 unfold dY;rw[if_neg (by simp[a]),if_pos h]
theorem PT{l:List Ex}(h:dY l=0):dE l=0∧mf l=true:=by
 unfold dY at h;split at h
 ·contradiction
 rename_i h1
 split at h
 ·rename_i h2;exact⟨by simpa using h1,h2⟩
 cases h
theorem JP(l:List Ex)(x:Ex)(n:Int):ek (l++[x]) n=(ek l n ||iQ x n):=by simp[ek]
theorem ZF(l:List Ex)(n:Int):ek l n=true↔∃x∈l,x.1<=n∧n<x.1+x.2:=by simp[ek,iQ]
theorem ZG(l:List Ex)(x:Ex):gJ (l++[x])=gJ l+x.2:=by simp[gJ]
theorem qt3{l:List Ex}(h:∀x∈l,0<=x.1∧1<=x.2∧x.1+x.2<=4096):0<=gJ l∧gJ l<=4096*l.length:=by
 induction l with
 |nil=>simp[gJ]
 |cons x r ih=>
  have:=ih fun y a=>h y (Xb1 _ a)
  have b:=h x (Xb4 ..);have e:gJ (x::r)=x.2+gJ r:=rfl;rw[e,Xb0];omega
theorem qq4(x:Ex)(k:Nat):gZ x (k+1)=gZ x k++[x.1+(k:Int)]:=by simp[gZ,List.range_succ]
theorem qvz(x:Ex)(k:Nat):(gZ x k).length=k:=by simp[gZ]
theorem qjt(l:List Ex)(x:Ex):iy (l++[x])=iy l++gZ x x.2.toNat:=by simp[iy]
theorem qt4{l:List Ex}(h:∀x∈l,1<=x.2):((iy l).length:Int)=gJ l:=by
 induction l with
 |nil=>rfl
 |cons x r ih=>
  have:=ih fun y a=>h y (Xb1 _ a)
  have c:=h x (Xb4 ..);have e:gJ (x::r)=x.2+gJ r:=rfl;have b:iy (x::r)=gZ x x.2.toNat++iy r:=rfl;rw[e,b,Xa0,qvz];omega
/-! ### what is free -/
theorem SF(n:Int):Ad [] n=[(n,1)]:=rfl
theorem Ra(l:List Ex)(x:Ex)(n:Int):Ad (l++[x]) n=if x.1+x.2=n then l++[(x.1,x.2+1)]else l++[x]++[(n,1)]:=by
 unfold Ad;simp
theorem qaac(l:List Ex)(n:Int):(Ad l n).length<=l.length+1:=by
 rcases List.eq_nil_or_concat l with rfl|⟨a,x,rfl⟩
 ·simp[SF]
 rw[Xc7,Ra];split<;>simp
theorem ZH(u:Int->Bool)(a:Int):∀k,(kG u a k).length<=k
 |0=>by simp[kG]
 |k+1=>by
  have:=ZH u a k
  unfold kG;split
  ·omega
  have:=qaac (kG u a k) (a+k);omega
def Bj (a b:Int) (l:List Ex):Prop:=(∀x∈l,a<=x.1∧1<=x.2∧x.1+x.2<=b)∧l.Pairwise fun x y=>x.1+x.2<y.1
theorem qyj{a:Int}{l:List Ex}(h:Bj a b l)(m:a<=b):Bj a (b+1) (Ad l b):=by
 rcases List.eq_nil_or_concat l with rfl|⟨n,x,rfl⟩
 ·rw[SF]
  refine⟨fun x i=>?_,by simp⟩;obtain rfl:x=(b,1):=by simpa using i
  simp;omega
 rw[Xc7]at h⊢
 obtain⟨d,j⟩:=h;rw[Xc9]at j;obtain⟨k, -,f⟩:=j;have i:=d x (by simp);rw[Ra];split
 ·rename_i e
  refine⟨fun y c=>?_, ?_⟩
  ·rcases Xa5.1 c with c|c
   ·have:=d y (List.mem_append_left _ c);omega
   obtain rfl:y=(x.1,x.2+1):=by simpa using c
   simp;omega
  rw[Xc9]
  refine⟨k,by simp,fun y c z g=>?_⟩;obtain rfl:z=(x.1,x.2+1):=by simpa using g
  exact f y c x (by simp)
 rename_i e
 refine⟨fun y c=>?_, ?_⟩
 ·rcases Xa5.1 c with c|c
  ·have:=d y c;omega
  obtain rfl:y=(b,1):=by simpa using c
  simp;omega
 rw[Xc9]
 refine⟨by rw[Xc9];exact⟨k,by simp,f⟩,by simp,fun y c z g=>?_⟩;obtain rfl:z=(b,1):=by simpa using g
 show y.1+y.2<b
 rcases Xa5.1 c with c|c
 ·have:=f y c x (by simp)
  have:=d y (List.mem_append_left _ c);omega
 obtain rfl:y=x:=by simpa using c
 omega
theorem qae8{a:Int}{l:List Ex}(h:Bj a b l)(n:Int):ek (Ad l b) n=(ek l n ||decide (n=b)):=by
 rcases List.eq_nil_or_concat l with rfl|⟨c,x,rfl⟩
 ·rw[SF,Bool.eq_iff_iff];simp[ek,iQ];omega
 rw[Xc7]at h⊢
 have d:=h.1 x (by simp);rw[Ra];split
 ·rename_i e
  rw[JP,JP,Bool.or_assoc];congr 1
  rw[Bool.eq_iff_iff];simp[iQ];omega
 rw[JP]
 congr 1
 rw[Bool.eq_iff_iff];simp[iQ];omega
theorem qyk{a c:Int}{l:List Ex}(h:Bj a b l)(hb:b<=c):Bj a c l:=⟨fun x d=>by have:=h.1 x d;omega,h.2⟩
theorem qi6(u:Int->Bool)(a:Int):∀k:Nat,Bj a (a+k) (kG u a k)∧∀n,ek (kG u a k) n=(decide (a<=n) && decide (n<a+k) && !u n)
 |0=>by
  refine⟨⟨by simp[kG],by simp[kG]⟩,fun n=>?_⟩;rw[Bool.eq_iff_iff];simp[kG,ek];omega
 |k+1=>by
  obtain⟨d,g⟩:=qi6 u a k;have e:a+((k+1:Nat):Int)=a+k+1:=by omega
  rw[e];unfold kG;split
  ·rename_i hu
   refine⟨qyk d (by omega),fun n=>?_⟩;rw[g,Bool.eq_iff_iff];simp only[Xe0,decide_eq_true_eq,Bool.not_eq_true'];constructor
   ·rintro⟨⟨c,f⟩,b⟩;exact⟨⟨c,by omega⟩,b⟩
   rintro⟨⟨c,f⟩,b⟩
   refine⟨⟨c, ?_⟩,b⟩;have:n≠a+k:=by rintro rfl;rw[hu]at b;cases b
   omega
  rename_i hu
  refine⟨qyj d (by omega),fun n=>?_⟩;rw[qae8 d,g,Bool.eq_iff_iff];simp only[Xe0,decide_eq_true_eq,Bool.not_eq_true',Bool.or_eq_true];constructor
  ·rintro(⟨⟨c,f⟩,b⟩|rfl)
   ·exact⟨⟨c,by omega⟩,b⟩
   exact⟨⟨by omega,by omega⟩,by simpa using hu⟩
  rintro⟨⟨c,f⟩,b⟩
  by_cases e:n=a+k
  ·exact .inr e
  exact .inl ⟨⟨c,by omega⟩,b⟩
theorem ZI{a:Int}{l:List Ex}(h:kH a b l=0):0<=a∧a<=b∧b<=4096∧dE l=0:=by
 unfold kH at h;split at h
 ·cases h
 rename_i h1
 exact⟨by omega,by omega,by omega,h⟩
theorem PU{a:Int}{l:List Ex}(h:kH a b l=0):Bj a b (jN a b l)∧(∀n,ek (jN a b l) n=(decide (a<=n) && decide (n<b) && !ek l n))∧(jN a b l).length<=4096:=by
 obtain⟨c,d,f,_⟩:=ZI h;have:=qi6 (ek l) a (b-a).toNat
 have e:a+((b-a).toNat:Int)=b:=by omega
 rw[e]at this;unfold jN;rw[if_pos h];exact⟨this.1,this.2,by have:=ZH (ek l) a (b-a).toNat;omega⟩
theorem qaad{a:Int}{l:List Ex}(h:Bj a b l)(g:0<=a)(hb:b<=4096)(hl:l.length<=4096):dY l=0:=by
 refine ZE (Q9 hl fun x e=>by have:=h.1 x e;omega) ?_
 obtain⟨f,c⟩:=h;clear hl;induction l with
 |nil=>rfl
 |cons x r ih=>
  rw[List.pairwise_cons]at c;rw[mf,ih (fun y d=>f y (Xb1 _ d)) c.2,Bool.and_true,Xc5];intro y d;have:=c.1 y d
  simp[pG];omega
/-! ### what is taken -/
theorem qk3:∀(l:List Ex) (w:Int),1<=w->(∀x∈l,1<=x.2)->
  (fE l w=none∧gJ l<w)∨∃p x q c,l=p++x::q∧fE l w=some (p++[(x.1,c)])∧1<=c∧c<=x.2∧gJ p+c=w
 |[],w,hw,_=>.inl ⟨rfl,by simp[gJ];omega⟩
 |x::r,w,hw,h=>by
  have j:=h x (Xb4 ..);have e:gJ (x::r)=x.2+gJ r:=rfl;unfold fE;split
  ·rename_i h1
   exact .inr ⟨[],x,r,w,rfl,rfl,hw,h1,by simp[gJ]⟩
  rename_i h1
  rcases qk3 r (w-x.2) (by omega) (fun y b=>h y (Xb1 _ b))with⟨d,a⟩|⟨p,y,q,c,rfl,a,f,g,k⟩
  ·exact .inl ⟨by rw[d];rfl,by rw[e];omega⟩
  refine .inr ⟨x::p,y,q,c,rfl,by rw[a];rfl,f,g, ?_⟩;have i:gJ (x::p)=x.2+gJ p:=rfl;rw[i];omega
theorem KT:∀(l:List Ex) (w:Int) (k:Nat),k<=l.length->gJ (l.take k)<w->(∀x∈l,1<=x.2)->fE l w=(fE (l.drop k) (w-gJ (l.take k))).map (l.take k++·)
 |l,w,0,_,_,_=>by simp[gJ]
 |[],w,k+1,h,_,_=>by simp at h
 |x::r,w,k+1,h,h1,h2=>by
  have e:gJ ((x::r).take (k+1))=x.2+gJ (r.take k):=rfl;rw[e]at h1⊢;have d:0<=gJ (r.take k):=by
   have:∀(l:List Ex),(∀x∈l,1<=x.2)->0<=gJ l:=by
    intro l;induction l with
    |nil=>intro _;simp[gJ]
    |cons y l ih=>
     intro b;have:=ih fun z c=>b z (Xb1 _ c)
     have:=b y (Xb4 ..)
     have e:gJ (y::l)=y.2+gJ l:=rfl;omega
   exact this _ fun y a=>h2 y (Xb1 _ (Xb9 a))
  have ih:=KT r (w-x.2) k (by simpa using h) (by omega) (fun y a=>h2 y (Xb1 _ a));rw[fE,if_neg (by omega),ih,List.drop_succ_cons,List.take_succ_cons];rw[show w-x.2-gJ (r.take k)=w-(x.2+gJ (r.take k))by omega,Option.map_map];rfl
theorem qq5(x:Ex)(r:List Ex)(w:Int):fE (x::r) w=if w<=x.2 then some [(x.1,w)]else(fE r (w-x.2)).map (x::·):=rfl
theorem qq6{l:List Ex}{w:Int}(a:k<l.length)(h:gJ (l.take k)<w)(b:∀x∈l,1<=x.2)(c:w-gJ (l.take k)<=(l[k]).2):fE l w=some (l.take k++[((l[k]).1,w-gJ (l.take k))]):=by
 rw[KT l w k (by omega) h b,Xc4 a,qq5,if_pos c];rfl
theorem qv0{l:List Ex}{w:Int}(h:gJ l<w)(a:∀x∈l,1<=x.2):fE l w=none:=by
 have:=KT l w l.length aL (by simpa using h) a
 rw[this];simp[fE]
theorem qi7{a:Int}{l:List Ex}{w:Int}(h:kH a b l≠0):lS a b l w=kH a b l∧kg a b l w=[]:=by
 unfold lS kg;rw[if_pos h,if_pos h];exact⟨rfl,rfl⟩
theorem JQ{a:Int}{l:List Ex}{w:Int}(h:kH a b l=0)(c:w<1∨4096<w):lS a b l w=2∧kg a b l w=[]:=by
 have d:¬(kH a b l≠0):=by simp[h]
 unfold lS kg;rw[if_neg d,if_neg d,if_pos c,if_pos c];exact⟨rfl,rfl⟩
theorem qm7{a:Int}{l:List Ex}{w:Int}{r:List Ex}(h:kH a b l=0)(g:1<=w)(e:w<=4096)(f:fE (jN a b l) w=some r):lS a b l w=0∧kg a b l w=r:=by
 have c:¬(kH a b l≠0):=by simp[h]
 have d:¬(w<1∨4096<w):=by omega
 unfold lS kg sG;rw[if_neg c,if_neg c,if_neg d,if_neg d,f];exact⟨rfl,rfl⟩
theorem qm8{a:Int}{l:List Ex}{w:Int}(h:kH a b l=0)(g:1<=w)(e:w<=4096)(f:fE (jN a b l) w=none):lS a b l w=40∧kg a b l w=[]:=by
 have c:¬(kH a b l≠0):=by simp[h]
 have d:¬(w<1∨4096<w):=by omega
 unfold lS kg sG;rw[if_neg c,if_neg c,if_neg d,if_neg d,f];exact⟨rfl,rfl⟩
theorem qm9{p q:List Ex}{x y:Ex}{a:Int}(h:Bj a b (p++x::q))(e:y.1=x.1)(k:1<=y.2)(l:y.2<=x.2):Bj a b (p++[y]):=by
 obtain⟨d,f⟩:=h;rw[Xc9]at f;obtain⟨g,_,i⟩:=f;refine⟨fun z c=>?_, ?_⟩
 ·rcases Xa5.1 c with c|c
  ·exact d z (List.mem_append_left _ c)
  obtain rfl:z=y:=by simpa using c
  have:=d x (by simp);omega
 rw[Xc9]
 refine⟨g,by simp,fun z c u j=>?_⟩;obtain rfl:u=y:=by simpa using j
 rw[e];exact i z c x (Xb4 ..)
def hv:az->Nat
 |[]=>0
 |c::r=>c.toNat%128+128*hv r
theorem Rc:∀(p:az) (c:UInt8),hv (p++[c])=hv p+c.toNat%128*128^p.length
 |[],c=>by simp[hv]
 |x::p,c=>by
  simp only[List.cons_append,hv,Rc p c,Xb0,Nat.pow_succ,Nat.mul_add];rw[show c.toNat%128*(128^p.length*128)=128*(c.toNat%128*128^p.length)by rw[<-Nat.mul_assoc,Nat.mul_comm]];omega
theorem G6:∀p:az,hv p<128^p.length
 |[]=>by simp[hv]
 |x::p=>by
  have:=G6 p
  simp only[hv,Xb0,Nat.pow_succ];omega
theorem qv1:∀(p r:az) (i a:Nat),(∀x∈p,128<=x.toNat)->i+p.length<=9->iK (p++r) i a=iK r (i+p.length) (a+hv p*128^i)
 |[],r,i,a,_,_=>by simp[hv]
 |x::p,r,i,a,h,hl=>by
  simp only[Xb0]at hl;rw[List.cons_append,Jl (by omega) (h x (by simp)),qv1 p r (i+1) _ (fun y b=>h y (by simp[b])) (by omega)];congr 1
  ·simp only[Xb0];omega
  simp only[hv,Nat.pow_succ,Nat.add_mul]
  rw[show 128*hv p*128^i=hv p*(128^i*128)by rw[Nat.mul_comm 128 (hv p),Nat.mul_assoc,Nat.mul_comm 128]];omega
theorem PV(l:az)(k:Nat)(f:k<=9)(g:k<=l.length)(c:∀j,(h:j<l.length)->j<k->128<=(l[j]).toNat):rd l=iK (l.drop k) k (hv (l.take k)):=by
 have e:l=l.take k++l.drop k:=(Xc0 k l).symm;have a:(l.take k).length=k:=by simp;omega
 unfold rd;rw[e,qv1 _ _ _ _ (by
  intro x d;obtain⟨j,b,rfl⟩:=Xb7.1 d;rw[a]at b;simp only[List.getElem_take];exact c j (by omega) b) (by omega)]
 rw[a];simp
theorem JR(l:az)(b:l.length<=10)(a:∀j,(h:j<l.length)->128<=(l[j]).toNat):rd l=none:=by
 by_cases c:l.length<=9
 ·rw[PV l l.length c aL (fun j h _=>a j h)];simp[iK]
 rw[PV l 9 (by omega) (by omega) (fun j h _=>a j h),Xc4 (by omega),ZB (by have:=a 9 (by omega);omega)]
theorem JS(l:az)(b:10<=l.length)(a:∀j,(h:j<l.length)->j<10->128<=(l[j]).toNat):rd l=none:=by
 rw[PV l 9 (by omega) (by omega) (fun j h _=>a j h (by omega)),Xc4 (by omega),ZB (by have:=a 9 (by omega) (by omega);omega)]
theorem JU(l:az)(a:9<l.length)(b:∀j,(h:j<l.length)->j<9->128<=(l[j]).toNat)(hb:1<(l[9]).toNat):rd l=none:=by
 rw[PV l 9 (by omega) (by omega) (fun j h _=>b j h (by omega)),Xc4 (by omega),ZB hb]
theorem Re(l:az)(k:Nat)(a:k<l.length)(b:k<=9)(c:0<k)(d:∀j,(h:j<l.length)->j<k->128<=(l[j]).toNat)(hb:(l[k]).toNat=0):rd l=none:=by
 rw[PV l k b (by omega) d,Xc4 a,XM hb c]
def hvd (l:az) (k j:Nat):Nat:=hv ((l.take (k+1)).drop j)
theorem qt6(l:az)(k:Nat):hvd l k (k+1)=0:=by
 unfold hvd;rw[List.drop_eq_nil_of_le (by simp;omega)];rfl
theorem ZJ(l:az)(k j:Nat)(a:j<=k)(b:k<l.length):hvd l k j=(l[j]).toNat%128+128*hvd l k (j+1):=by
 unfold hvd;rw[Xc4 (by simp;omega)];simp[hv]
theorem ZK(l:az)(k:Nat)(a:k<l.length):∀j,j<=k+1->hvd l k j<=hvd l k 0
 |0,_=>Nat.le_refl _
 |j+1,h=>by
  have:=ZK l k a j (by omega)
  have:=ZJ l k j (by omega) a
  omega
theorem qv3(l:az)(k:Nat)(a:k<l.length):hvd l k 0=hv (l.take k)+(l[k]).toNat%128*128^k:=by
 unfold hvd;rw[List.drop_zero,Xa2 a,Rc];simp[Xc3 (show k<=l.length by omega)]
theorem qk4(l:az)(k:Nat)(a:k<l.length)(f:k<=9)(hb:k=9->(l[k]).toNat<=1):hvd l k 0<18446744073709551616:=by
 rw[qv3 l k a];have b:=G6 (l.take k);have e:(l.take k).length=k:=by simp;omega
 rw[e]at b;by_cases h:k=9
 ·have:=hb h
  subst h;have c:(l[9]).toNat%128*128^9<=1*128^9:=Nat.mul_le_mul_right _ (by omega);omega
 have d:128^k<=128^8:=Nat.pow_le_pow_right (by decide) (by omega);have c:(l[k]).toNat%128*128^k<=127*128^8:=Nat.mul_le_mul (by omega) d;omega
theorem rd_some(l:az)(k:Nat)(b:k<l.length)(c:k<=9)(d:∀j,(h:j<l.length)->j<k->128<=(l[j]).toNat)(a:(l[k]).toNat<128)
  (hb:k=9->(l[k]).toNat<=1) (e:¬(0<k∧(l[k]).toNat=0)):rd l=some (hvd l k 0,k+1):=by
 rw[PV l k c (by omega) d,Xc4 b,Q5 (by intro h;have:=hb h.1;omega) a (by omega),qv3 l k b,Nat.mod_eq_of_lt a]
theorem qq7:∀(l:az) (i a n k:Nat),i<=9->a<128^i->iK l i a=some (n,k)->i<k∧k<=i+l.length∧k<=10∧n<18446744073709551616
 |[],i,a,n,k,_,_,h=>by simp[iK]at h
 |c::r,i,a,n,k,hi,ha,h=>by
  rw[iK]at h;split at h
  ·simp at h
  rename_i h9
  split at h
  ·rename_i hge
   have b:i≠9:=by intro e;exact h9 ⟨e,by omega⟩
   have:=qq7 r (i+1) _ n k (by omega) (qvy ha) h
   simp only[Xb0];omega
  rename_i hlt
  split at h
  ·simp at h
  simp only[Option.some.injEq,Prod.mk.injEq]at h
  obtain⟨rfl,rfl⟩:=h;refine⟨by omega,by simp only[Xb0];omega,by omega, ?_⟩;by_cases e:i=9
  ·subst e
   have d:c.toNat*128^9<=1*128^9:=Nat.mul_le_mul_right _ (by omega);omega
  have f:128^i<=128^8:=Nat.pow_le_pow_right (by decide) (by omega);have d:c.toNat*128^i<=127*128^8:=Nat.mul_le_mul (by omega) f;omega
theorem JV{l:az}(h:rd l=some (n,k)):0<k∧k<=l.length∧k<=10∧n<18446744073709551616:=by
 have:=qq7 l 0 0 n k (by omega) (by decide) h
 omega
theorem qajw:∀(m:Nat) (r:az) (i a:Nat),i<=9->m*128^i<18446744073709551616->(0<i->0<m)->iK (sm m++r) i a=some (a+m*128^i,i+(sm m).length):=by
 intro m;induction m using Nat.strongRecOn with
 |ind m ih=>
  intro r i a hi f d;by_cases b:m<128
  ·have e:(UInt8.ofNat m).toNat=m:=by rw[UInt8.toNat_ofNat'];omega
   rw[Eg b];simp only[List.cons_append,List.nil_append,Xb0,List.length_nil];rw[Q5 (by
    rw[e];rintro⟨rfl,g⟩;have:2*128^9<=m*128^9:=Nat.mul_le_mul_right _ (by omega)
    omega) (by omega) (by rw[e];intro h;have:=d h.2;omega),e]
  have e:(UInt8.ofNat (m%128+128)).toNat=m%128+128:=by rw[UInt8.toNat_ofNat'];omega
  have c:i≠9:=by
   rintro rfl;have:128*128^9<=m*128^9:=Nat.mul_le_mul_right _ (by omega)
   omega
  have j:m / 128*128^(i+1)+m%128*128^i=m*128^i:=by
   rw[Nat.pow_succ,Nat.mul_comm (128^i) 128,<-Nat.mul_assoc,<-Nat.add_mul];congr 1;omega
  rw[PQ (by omega),List.cons_append,Jl c (by omega),e,ih (m / 128) (by omega) r (i+1) _ (by omega) (by omega) (by omega)];rw[show(m%128+128)%128=m%128 by omega];simp only[Xb0,Option.some.injEq,Prod.mk.injEq];omega
theorem JW(n:Nat)(a:n<18446744073709551616)(r:az):rd (sm n++r)=some (n,(sm n).length):=by
 unfold rd;rw[qajw n r 0 0 (by omega) (by omega) (by omega)];simp
def ct (l:az):Option (az×az):=
 match rd l with
 |none=>none
 |some (n,k)=>if n<=l.length-k then some ((l.drop k).take n,l.drop (k+n))else none
theorem ZL{l:az}(h:rd l=none):ct l=none:=by simp[ct,h]
theorem ZM{l:az}(h:rd l=some (n,k))(a:¬n<=l.length-k):ct l=none:=by simp[ct,h,a]
theorem PW{l:az}(h:rd l=some (n,k))(a:n<=l.length-k):ct l=some ((l.drop k).take n,l.drop (k+n)):=by simp[ct,h,a]
def tx (s:az):az:=sm s.length++s
theorem G7(s r:az)(a:s.length<18446744073709551616):ct (tx s++r)=some (s,r):=by
 have h:=JW s.length a (s++r);unfold tx;rw[Xa8];rw[PW h (by simp)];simp[List.drop_append]
abbrev Fl:=az×List Ex
/-! ### names -/
def eu:az->az->Bool
 |[],[]=>false
 |[],_::_=>true
 |_::_,[]=>false
 |a::s,b::t=>decide (a<b) ||((a==b) && eu s t)
theorem Rf:∀a b:az,Op.bytesLess a b=eu a b
 |[],[]=>by simp[Op.bytesLess,eu]
 |[],_::_=>by simp[Op.bytesLess,eu]
 |_::_,[]=>by simp[Op.bytesLess,eu]
 |a::s,b::t=>by simp[Op.bytesLess,eu,Rf s t]
theorem PX:∀a:az,eu a a=false
 |[]=>rfl
 |a::s=>by simp[eu,PX s,UInt8.lt_irrefl]
theorem JX:∀a b c:az,eu a b=true->eu b c=true->eu a c=true
 |[],[],_,h,_=>by simp[eu]at h
 |[],_::_,[],_,h=>by simp[eu]at h
 |[],_::_,_::_,_,_=>rfl
 |_::_,[],_,h,_=>by simp[eu]at h
 |_::_,_::_,[],_,h=>by simp[eu]at h
 |a::s,b::t,c::u,h,k=>by
  simp only[eu,Bool.or_eq_true,Xe0,decide_eq_true_eq,beq_iff_eq]at h k⊢;rcases h with h|⟨rfl,h⟩
  ·rcases k with k|⟨rfl,k⟩
   ·exact .inl (UInt8.lt_trans h k)
   exact .inl h
  rcases k with k|⟨rfl,k⟩
  ·exact .inl k
  exact .inr ⟨rfl,JX s t u h k⟩
theorem Rh:∀a b:az,eu a b=false->a≠b->eu b a=true
 |[],[],_,h=>absurd rfl h
 |[],_::_,h,_=>by simp[eu]at h
 |_::_,[],_,_=>rfl
 |a::s,b::t,h,hne=>by
  simp only[eu,Bool.or_eq_false_iff,Bool.and_eq_false_iff,Xd9,Bool.or_eq_true,Xe0,decide_eq_true_eq,beq_iff_eq]at h⊢;obtain⟨d,c⟩:=h;by_cases e:a=b
  ·subst e
   refine .inr ⟨rfl,Rh s t ?_ (fun e=>hne (by rw[e]))⟩;rcases c with c|c
   ·simp at c
   exact c
  left
  have f:¬a.toNat<b.toNat:=fun h=>d (UInt8.lt_iff_toNat_lt.2 h)
  have g:a.toNat≠b.toNat:=fun h=>e (UInt8.toNat_inj.1 h)
  exact UInt8.lt_iff_toNat_lt.2 (by omega)
theorem ZN{a b:az}(h:eu a b=true):eu b a=false:=by
 cases k:eu b a with
 |false=>rfl
 |true=>have:=JX a b a h k;rw[PX]at this;cases this
theorem ZO{a b:az}(h:eu a b=true):a≠b:=by rintro rfl;rw[PX]at h;cases h
theorem XP:∀a b:az,(Lib.compareBytes a b<0↔eu a b=true)∧(Lib.compareBytes a b=0↔a=b)
 |[],[]=>by simp[Lib.compareBytes,eu]
 |[],_::_=>by simp[Lib.compareBytes,eu]
 |_::_,[]=>by simp[Lib.compareBytes,eu]
 |a::s,b::t=>by
  have g:=XP s t;by_cases d:a<b
  ·have c:a≠b:=by rintro rfl;exact UInt8.lt_irrefl _ d
   simp[Lib.compareBytes,eu,d,c]
  by_cases f:b<a
  ·have c:a≠b:=by rintro rfl;exact UInt8.lt_irrefl _ f
   simp[Lib.compareBytes,eu,d,f,c]
  have e:a=b:=by
   have i:¬a.toNat<b.toNat:=fun h=>d (UInt8.lt_iff_toNat_lt.2 h)
   have j:¬b.toNat<a.toNat:=fun h=>f (UInt8.lt_iff_toNat_lt.2 h)
   exact UInt8.toNat_inj.1 (by omega)
  subst e;simp[Lib.compareBytes,eu,UInt8.lt_irrefl,g.1,g.2]
def gT (s:az):Bool:=decide (1<=s.length) && decide (s.length<=16)
/-! ### files -/
def cz (fs:List Fl):List Ex:=fs.flatMap (·.2)
def lV (x:Ex):az:=sm x.1.toNat++sm x.2.toNat
def dZ (l:List Ex):az:=l.flatMap lV
def kJ (f:Fl):az:=tx f.1++(sm f.2.length++dZ f.2)
def dJ (fs:List Fl):az:=sm fs.length++fs.flatMap kJ
def jv (f:Fl):Bool:=gT f.1 && decide (1<=f.2.length) && decide (f.2.length<=64)
def kK (fs:List Fl):Prop:=fs.Pairwise fun f g=>eu f.1 g.1=true
instance (fs:List Fl):Decidable (kK fs):=inferInstanceAs (Decidable (fs.Pairwise _))
def qx (fs:List Fl):Prop:=(∀f∈fs,jv f=true)∧kK fs
instance (fs:List Fl):Decidable (qx fs):=inferInstanceAs (Decidable (_∧_))
def dK (l:List Ex) (b:Int):Prop:=dY l=0∧∀x∈l,34<=x.1∧x.1+x.2<=b
instance (l:List Ex) (b:Int):Decidable (dK l b):=inferInstanceAs (Decidable (_∧_))
def dR (fs:List Fl) (b:Int):Prop:=fs.length<=40∧qx fs∧dK (cz fs) b∧(dJ fs).length<=2048
instance (fs:List Fl) (b:Int):Decidable (dR fs b):=inferInstanceAs (Decidable (_∧_))
def eX (b:Int):Prop:=34<b∧b<=4096
instance (b:Int):Decidable (eX b):=inferInstanceAs (Decidable (_∧_))
def bf (fs:List Fl) (b:Int):Int:=if ¬eX b then 2 else if dR fs b then 0 else 8
def dN (fs:List Fl) (s:az):Nat:=fs.countP fun f=>eu f.1 s
def iF (fs:List Fl) (s:az):Bool:=fs.any fun f=>f.1==s
def fO (fs:List Fl) (s:az):List Ex:=((fs.find? fun f=>f.1==s).map (·.2)).getD []
def bY (fs:List Fl) (f:Fl):List Fl:=fs.take (dN fs f.1)++f::fs.drop (dN fs f.1)
def bM (fs:List Fl) (s:az):List Fl:=fs.filter fun f=>!(f.1==s)
def iq (fs:List Fl) (s:az):Int:=if bf fs 4096≠0 then bf fs 4096 else if gT s=false then 50 else if iF fs s then 0 else 6
def og (fs:List Fl) (s:az):Fl:=if iq fs s=0 then(s,fO fs s)else([],[])
def ib (fs:List Fl):Int:=if(dJ fs).length<=2048 then 0 else 40
def iG (fs:List Fl) (s:az) (l:List Ex) (b:Int):Int:=
 if bf fs b≠0 then bf fs b else if gT s=false then 50 else if iF fs s then 51 else if l=[]∨¬dK (cz fs++l) b then 8
 else if fs.length=40∨64<l.length then 40 else ib (bY fs (s,l))
def lW (fs:List Fl) (s:az) (l:List Ex) (b:Int):List Fl:=if iG fs s l b=0 then bY fs (s,l)else[]
def ko (fs:List Fl) (s t:az):List Fl:=bY (bM (bM fs s) t) (t,fO fs s)
def kr (fs:List Fl) (s t:az):Int:=
 if bf fs 4096≠0 then bf fs 4096 else if gT s=false∨gT t=false then 50 else if iF fs s then ib (ko fs s t)else 6
def qy (fs:List Fl) (s t:az):List Fl:=if kr fs s t=0 then ko fs s t else[]
def nE (fs:List Fl):List Ex:=if bf fs 4096=0 then cz fs else[]
theorem qi9(fs:List Fl)(k:Nat)(h:k<fs.length):cz (fs.take (k+1))=cz (fs.take k)++(fs[k]).2:=by
 unfold cz;rw[Xa2 h,List.flatMap_append];simp
theorem qq8(fs:List Fl)(k:Nat)(h:k<fs.length):(fs.take (k+1)).flatMap kJ=(fs.take k).flatMap kJ++kJ fs[k]:=by
 rw[Xa2 h,List.flatMap_append];simp
theorem qq9(l:List Ex)(k:Nat)(h:k<l.length):dZ (l.take (k+1))=dZ (l.take k)++lV l[k]:=by
 unfold dZ;rw[Xa2 h,List.flatMap_append];simp
theorem qyl{fs:List Fl}{f:Fl}(h:kK (fs++[f])):kK fs∧∀g∈fs,eu g.1 f.1=true:=by
 unfold kK at h;rw[Xc9]at h;exact⟨h.1,fun g a=>h.2.2 g a f (by simp)⟩
theorem qaag{fs:List Fl}{f:Fl}(h:kK fs)(c:fs=[]∨∃p g,fs=p++[g]∧eu g.1 f.1=true):kK (fs++[f]):=by
 unfold kK;rw[Xc9];refine⟨h,by simp, ?_⟩;intro g a x d;obtain rfl:x=f:=by simpa using d
 rcases c with rfl|⟨p,y,rfl,b⟩
 ·simp at a
 rcases Xa5.1 a with a|a
 ·exact JX _ _ _ ((qyl h).2 g a) b
 obtain rfl:g=y:=by simpa using a
 exact b
theorem qra:qx []:=⟨by simp,List.Pairwise.nil⟩
theorem qF(l:List α)(k:Nat)(h:k<l.length):l.take (k+1)=l.take k++[l[k]]:=Xa2 h
theorem ZP{fs:List Fl}(h:k<fs.length)(hb:jv fs[k]=false):¬qx fs:=fun e=>by
 have:=e.1 fs[k] (Xa3 h);rw[hb]at this;cases this
theorem qna{fs:List Fl}(h:k+1<fs.length)(hb:eu (fs[k]).1 (fs[k+1]).1=false):¬qx fs:=fun e=>by
 have:=List.pairwise_iff_getElem.1 e.2 k (k+1) (by omega) h (by omega);rw[hb]at this;cases this
theorem R7{fs:List Fl}(h:k<fs.length)(b:qx (fs.take k))(c:jv fs[k]=true)(hl:∀j,(d:j+1=k)->eu (fs[j]).1 (fs[k]).1=true):qx (fs.take (k+1)):=by
 rw[qF fs k h];refine⟨?_,qaag b.2 ?_⟩
 ·intro f a
  rcases Xa5.1 a with a|a
  ·exact b.1 f a
  obtain rfl:f=fs[k]:=by simpa using a
  exact c
 cases k with
 |zero=>left;simp
 |succ j=>
  right
  exact⟨fs.take j,fs[j],qF fs j (by omega),hl j rfl⟩
theorem JY{f:Fl}(h:jv f=true):1<=f.1.length∧f.1.length<=16∧1<=f.2.length∧f.2.length<=64:=by
 simp only[jv,gT,Xe0,decide_eq_true_eq]at h;omega
theorem L6{fs:List Fl}(hi:i<=fs.length)(c:∀t,(h:t<fs.length)->t<i->eu (fs[t]).1 s=true)(d:∀t,(h:t<fs.length)->i<=t->eu (fs[t]).1 s=false):dN fs s=i:=by
 have e:fs=fs.take i++fs.drop i:=(Xc0 i fs).symm;unfold dN;rw[e,List.countP_append];have a1:(fs.take i).countP (fun f=>eu f.1 s)=i:=by
  have:(fs.take i).countP (fun f=>eu f.1 s)=(fs.take i).length:=by
   rw[List.countP_eq_length];intro f a;obtain⟨t,b,rfl⟩:=Xb7.1 a;rw[Xa4]at b;rw[List.getElem_take];exact c t (by omega) (by omega)
  rw[this,Xa4];omega
 have a2:(fs.drop i).countP (fun f=>eu f.1 s)=0:=by
  rw[List.countP_eq_zero];intro f a;obtain⟨t,b,rfl⟩:=Xb7.1 a;rw[Xa9]at b;rw[List.getElem_drop];simp[d (i+t) (by omega) (by omega)]
 omega
theorem Ri(fs:List Fl)(s:az):dN fs s<=fs.length:=List.countP_le_length
theorem ZQ{fs:List Fl}(h:kK fs){j:Nat}(a:i<j)(b:j<fs.length):eu (fs[i]).1 (fs[j]).1=true:=List.pairwise_iff_getElem.1 h i j (by omega) b a
theorem ZR{fs:List Fl}(c:kK fs)(s:az):∀t,(h:t<fs.length)->(t<dN fs s->eu (fs[t]).1 s=true)∧(dN fs s<=t->eu (fs[t]).1 s=false):=by
 induction fs with
 |nil=>intro t h;simp at h
 |cons f r ih=>
  have b:kK r:=(List.pairwise_cons.1 c).2;have d:=(List.pairwise_cons.1 c).1;intro t h;cases hl:eu f.1 s with
  |true=>
   have e:dN (f::r) s=dN r s+1:=by unfold dN;rw[List.countP_cons];simp[hl]
   rw[e];cases t with
   |zero=>exact⟨fun _=>hl,fun h=>by omega⟩
   |succ t=>
    have:=ih b t (by simpa using h)
    simp only[List.getElem_cons_succ];exact⟨fun h=>this.1 (by omega),fun h=>this.2 (by omega)⟩
  |false=>
   have z:∀g∈f::r,eu g.1 s=false:=by
    intro g a;rcases List.mem_cons.1 a with rfl|a
    ·exact hl
    cases k:eu g.1 s with
    |false=>rfl
    |true=>have:=JX _ _ _ (d g a) k;rw[hl]at this;cases this
   have e:dN (f::r) s=0:=by
    unfold dN;rw[List.countP_eq_zero];intro g a;simp[z g a]
   rw[e];exact⟨fun h=>by omega,fun _=>z _ (Xa3 h)⟩
theorem Rj{fs:List Fl}(a:kK fs)(s:az):iF fs s=(if h:dN fs s<fs.length then(fs[dN fs s]).1==s else false):=by
 by_cases h:dN fs s<fs.length
 ·rw[dif_pos h]
  cases hq:(fs[dN fs s]).1==s with
  |true=>unfold iF;rw[List.any_eq_true];exact⟨_,Xa3 h,hq⟩
  |false=>
   unfold iF;rw[List.any_eq_false];intro g c;obtain⟨t,b,rfl⟩:=Xb7.1 c;intro e;have e:(fs[t]).1=s:=by simpa using e
   have p:=ZR a s t b;have f:eu (fs[t]).1 s=false:=by rw[e];exact PX s
   have i:dN fs s<=t:=by
    rcases Nat.lt_or_ge t (dN fs s)with h|h
    ·rw[p.1 h]at f;cases f
    exact h
   rcases Nat.lt_or_eq_of_le i with d|d
   ·have:=ZQ a d b
    rw[e]at this;have:=(ZR a s _ h).2 aL
    simp_all
   subst d;rw[e]at hq;simp at hq
 rw[dif_neg h]
 unfold iF;rw[List.any_eq_false];intro g c;obtain⟨t,b,rfl⟩:=Xb7.1 c;intro e;have e:(fs[t]).1=s:=by simpa using e
 have:=(ZR a s t b).1 (by omega)
 rw[e,PX]at this;cases this
theorem ZT{fs:List Fl}(b:kK fs){t:Nat}(a:t<fs.length)(e:(fs[t]).1=s):fO fs s=(fs[t]).2:=by
 have:fs.find? (fun f=>f.1==s)=some fs[t]:=by
  rw[List.find?_eq_some_iff_getElem];refine⟨by simp[e],t,a,rfl, ?_⟩;intro j c;have:=ZQ b c a
  rw[e]at this;have:=ZO this
  simp[this]
 simp[fO,this]
theorem qv5{fs:List Fl}(b:kK fs)(h:iF fs s=true):∃a:dN fs s<fs.length,(fs[dN fs s]).1=s∧fO fs s=(fs[dN fs s]).2:=by
 rw[Rj b]at h;by_cases a:dN fs s<fs.length
 ·rw[dif_pos a]at h
  have e:(fs[dN fs s]).1=s:=by simpa using h
  exact⟨a,e,ZT b a e⟩
 rw[dif_neg a]at h;cases h
theorem PY{fs:List Fl}(h:kK fs)(s:az):kK (bM fs s):=List.Pairwise.sublist List.filter_sublist h
theorem sA(l:List Value)(i:Nat)(v:Value):l.toArray.setIfInBounds i v=(l.set i v).toArray:=by simp
theorem sB(x y:Value)(l:List Value):(x::l).set 0 y=y::l:=rfl
theorem sC(x y:Value)(l:List Value)(i:Nat):(x::l).set (i+1) y=x::l.set i y:=rfl
theorem bT{a c:World}(A:af (ah w a))(b:ah a c):af (ah w c):=A.o.trans (b.mono A.o.size)
end Go.Proofs.YtmeaiocohalphaaGreatDoor
