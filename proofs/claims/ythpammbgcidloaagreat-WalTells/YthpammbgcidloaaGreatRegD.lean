/-
  Laws of regions whose order is drawn, besides: a call whose answer is told outright, and changes nothing that was there; what is told of one cell lasts.
-/
import Derived.Test.YthpammbgcidloaaGreatAa
import Derived.Laws.BitsAllLaws
import Derived.WalkSmall
import Derived.Lib.AppendStr
import Derived.Laws.AppendOwnNone
import Derived.Laws.OwnMore
import Derived.Laws.BytesArg
import Derived.OpenShut
import Derived.Deep.RegionHeld3
namespace Go.Proofs.YthpammbgcidloaaGreat
open Go.RowKit
def Eb:Nat->Nat->ak
 | 0,n=>[UInt8.ofNat n]
 | f+1,n=>if n<128 then [UInt8.ofNat n] else UInt8.ofNat (n % 128+128)::Eb f (n / 128)
theorem Fy {n:Nat} (h:n<128):∀f,Eb f n=[UInt8.ofNat n]
 | 0=>rfl
 | f+1=>by simp [Eb,h]
theorem qvj:∀f g n:Nat,n<=f->n<=g->Eb f n=Eb g n
 | 0,g,n,h,_=>by
  obtain rfl:n=0:=by omega
  rw [Fy (by omega),Fy (by omega)]
 | f+1,0,n,_,h=>by
  obtain rfl:n=0:=by omega
  rw [Fy (by omega),Fy (by omega)]
 | f+1,g+1,n,h,k=>by
  by_cases a:n<128
  ·rw [Fy a,Fy a]
  ·simp only [Eb,a,if_false]
   rw [qvj f g (n / 128) (by omega) (by omega)]
def sm (n:Nat):ak:=Eb n n
theorem Fz {n:Nat} (h:n<128):sm n=[UInt8.ofNat n]:=Fy h n
theorem Lu {n:Nat} (h:128<=n):sm n=UInt8.ofNat (n % 128+128)::sm (n / 128):=by
 unfold sm;obtain ⟨m,rfl⟩:∃m,n=m+1:=⟨n - 1,by omega⟩;rw [Eb,if_neg (by omega),qvj m ((m+1) / 128) _ (by omega) (by omega)]
theorem M0 (n:Nat):1<=(sm n).length:=by
 by_cases h:n<128
 ·rw [Fz h];simp
 ·rw [Lu (by omega)];simp
theorem qq3:∀(k n:Nat),n<128 ^ k->(sm n).length<=max 1 k
 | 0,n,h=>by simp at h;subst h;rw [Fz (by omega)];simp
 | k+1,n,h=>by
  by_cases a:n<128
  ·rw [Fz a];simp
  ·rw [Lu (by omega)]
   have:=qq3 k (n / 128) (by rw [Nat.pow_succ] at h;omega)
   have b:1<=k:=by
    rcases k with _ | k
    ·simp at h;omega
    ·omega
   simp only [List.length_cons];omega
theorem rF {n:Nat} (h:n<18446744073709551616):(sm n).length<=10:=by
 have:=qq3 10 n (by omega);omega
theorem M3 (m:Nat):(m:Int) % 256=((UInt8.ofNat m).toNat:Int):=by
 rw [UInt8.toNat_ofNat'];omega
theorem Ec (m:Nat) (h:m<256):(m:Int)=((UInt8.ofNat m).toNat:Int):=by
 rw [UInt8.toNat_ofNat'];omega
theorem qzi:∀x:Fin 256,x.val ||| 128=x.val % 128+128:=by decide+kernel
theorem M4 (m:Nat):bits BinOp.or IntKind.u8 ((m:Int) % 256) 128=((UInt8.ofNat (m % 128+128)).toNat:Int):=by
 have h:=u8_or_nat (m % 256) 128 (by omega) (by omega);have e:(((m % 256:Nat):Int))=(m:Int) % 256:=by omega
 rw [e] at h;have a:=qzi ⟨m % 256,by omega⟩;simp only at a
 rw [a] at h;rw [UInt8.toNat_ofNat'];rw [show (128:Int)=((128:Nat):Int) from rfl,h];omega
def bW (l:ak):List Value:=l.map fun b=>Value.int .u8 b.toNat
@[simp] theorem FB (l:ak):(bW l).length=l.length:=by simp [bW]
theorem M5 (a b:ak):bW (a++b)=bW a++bW b:=by simp [bW]
def ig:ak->Nat->Nat->Option (Nat × Nat)
 | [],_,_=>none
 | c::r,i,acc=>
  if i=9∧1<c.toNat then none
  else if 128<=c.toNat then ig r (i+1) (acc+(c.toNat % 128)*128 ^ i)
  else if c.toNat=0∧0<i then none
  else some (acc+c.toNat*128 ^ i,i+1)
def rd (l:ak):Option (Nat × Nat):=ig l 0 0
def qm:Option (Nat × Nat)->Value
 | none=>.tuple #[.int .u64 0,.int .i64 0,.int .i64 8]
 | some (n,k)=>.tuple #[.int .u64 n,.int .i64 k,.int .i64 0]
theorem Vj {c:UInt8} {r:ak} {a:Nat} (h:1<c.toNat):ig (c::r) 9 a=none:=by simp [ig,h]
theorem Yt {c:UInt8} {r:ak} {i a:Nat} (b:i≠9) (h:128<=c.toNat):ig (c::r) i a=ig r (i+1) (a+(c.toNat % 128)*128 ^ i):=by
 simp [ig,b,h]
theorem Yu {c:UInt8} {r:ak} {i a:Nat} (b:c.toNat=0) (d:0<i):ig (c::r) i a=none:=by
 simp [ig,b,d]
theorem M6 {c:UInt8} {r:ak} {i a:Nat} (b:¬(i=9∧1<c.toNat)) (h:c.toNat<128) (d:¬(c.toNat=0∧0<i)):ig (c::r) i a=some (a+c.toNat*128 ^ i,i+1):=by
 rw [ig,if_neg b,if_neg (by omega),if_neg d]
theorem Yv (k:Nat):2 ^ (7*k)=128 ^ k:=by rw [Nat.pow_mul]
theorem qzk (a k x:Nat) (c:a<128 ^ k) (d:k<=8):
  bits BinOp.or IntKind.u64 (a:Int) (IntKind.u64.wrap ((x:Int) % 128*2 ^ (7*k)))=((a+x % 128*128 ^ k:Nat):Int):=by
 have f:128 ^ k<=72057594037927936:=aC (Nat.pow_le_pow_right (by decide) d) (by decide);have e:((x:Int) % 128*2 ^ (7*k))=((x % 128*128 ^ k:Nat):Int):=by
  rw [<-Yv];push_cast;rfl
 have g:x % 128*128 ^ k<=127*72057594037927936:=Nat.mul_le_mul (by omega) f;rw [e,IntKind.wrap_u64,show ((x % 128*128 ^ k:Nat):Int) % 18446744073709551616=((x % 128*128 ^ k:Nat):Int) by omega];rw [u64_or_nat _ _ (by omega) (by omega)];congr 1
 have h:=Nat.two_pow_add_eq_or_of_lt (i:=7*k) (b:=a) (by rw [Yv];exact c) (x % 128);rw [Yv,Nat.mul_comm] at h;rw [Nat.or_comm,<-h,Nat.add_comm]
theorem Yw (a x:Nat) (c:a<128 ^ 9) (d:x<=1):
  bits BinOp.or IntKind.u64 (a:Int) ((x:Int) % 128*9223372036854775808)=((a+x*128 ^ 9:Nat):Int):=by
 have e:((x:Int) % 128*9223372036854775808)=((x*9223372036854775808:Nat):Int):=by omega
 rw [e,u64_or_nat _ _ (by omega) (by omega)];congr 1
 have h:=Nat.two_pow_add_eq_or_of_lt (i:=63) (b:=a) (by omega) x;rw [Nat.or_comm,show x*9223372036854775808=2 ^ 63*x by omega,<-h];omega
theorem qvk {a k x:Nat} (h:a<128 ^ k):a+x % 128*128 ^ k<128 ^ (k+1):=by
 rw [Nat.pow_succ];have:x % 128*128 ^ k<=127*128 ^ k:=Nat.mul_le_mul_right _ (by omega)
 omega
theorem FC (l:ak):∀u∈bW l,u.oneCell'=true:=by
 intro u a;simp only [bW,List.mem_map] at a;obtain ⟨b,_,rfl⟩:=a;rfl
theorem FD (l:ak) (j:Nat) (u:Value) (h:(bW l)[j]? =some u):∃a:j<l.length,u=.int .u8 (l[j]).toNat:=by
 simp only [bW,List.getElem?_map,Option.map_eq_some_iff] at h;obtain ⟨b,c,rfl⟩:=h;obtain ⟨a,rfl⟩:=List.getElem?_eq_some_iff.1 c;exact ⟨a,rfl⟩
def Rd (w:World) (v:Value) (l:ak):Prop:=
 (l=[]∧(v=.slice none 0 0∨∃a c,v=.slice (some a) 0 c))∨
 ∃b off c,v=.slice (some ⟨b,off,none⟩) l.length c∧l.length<=c∧c<=maxLen∧∀j,(h:j<l.length)->w.cell? ⟨b,off+j,none⟩=some (.int .u8 (l[j]).toNat)
theorem Rd.a {w w':World} {v:Value} {l:ak} (h:Rd w v l) (hb:ah w w'):Rd w' v l:=by
 rcases h with h | ⟨b,d,c,rfl,f,g,a⟩
 ·exact .inl h
 ·refine .inr ⟨b,d,c,rfl,f,g,fun j e=>?_⟩
  rw [hb.cell (World.block_lt_of_cell? w _ (a j e))];exact a j e
theorem Rd.alloc {w:World} {v:Value} {l:ak} (h:Rd w v l) (o:Obj):Rd (w.alloc o) v l:=
 h.a (aB.alloc aI o)
theorem BA {w:World} {base:Nat} {e:TypeId} {v:Value} {l:ak} (h:w.ownsRow base e 1 v l.length (bW l)):Rd w v l:=by
 rcases h.2 with ⟨rfl,a⟩ | ⟨g,cap,c,rfl,_,k,a,d,f,b⟩
 ·exact .inl ⟨List.length_eq_zero_iff.1 a,.inl rfl⟩
 ·refine .inr ⟨g,0,cap,rfl,a,d,fun j i=>?_⟩
  have:=h.cells (g:=g) rfl j (.int .u8 (l[j]).toNat) (by simp [bW,List.getElem?_eq_getElem i])
  simpa [Addr.add_lit] using this
section
variable {P:Program}
theorem M7 {ops:Array Oper} {rest:List Oper} {o:Oper} {a:Act} {Q:Exit->Act->World->Prop} (W wr:World) (n:o.guard=none) (s x:Operand) (t:TypeId)
  (C:o.op=.call {callee:=.builtin .append,args:=#[s,x],argTypes:=#[t,t]})
  (base:Nat) (e:TypeId) (D:P.underlying t=some (.slice e)) (p:(P.info? e).map (fun i=>(i.zero,i.size,i.bytes))=some (some (.int .u8 0),1,1))
  (v:Value) (l:ak) (b:wr.ownsRow base e 1 v l.length (bW l)) (E:a.eval s=v) (d:Below base W wr) (hb:base<=W.heap.size)
  (z:Int) (c:UInt8) (F:z=c.toNat) (G:a.eval x=.slice (some ⟨wr.heap.size,0,none⟩) 1 1) (A:l.length+1<=1000000000000)
  (h:∀g w',w'.ownsRow base e 1 g (l++[c]).length (bW (l++[c]))->Below base W w'->wpList P ops Q rest (a.put o.dst g) w'):
  wpList P ops Q (o::rest) a (wr.alloc (.cells #[.int .u8 z] e)):=by
 obtain ⟨H,p,q,r,w⟩:=info_parts p;subst F;have y:base<=wr.heap.size:=by have:=d.size;omega
 refine wpList_append_own _ n s x t C base e H (.int .u8 0) 1 1 D p q r w rfl (by decide) v l.length (bW l) E (b.alloc _) ⟨wr.heap.size,0,none⟩ 1 1 [.int .u8 c.toNat] G rfl ?_ ?_ ?_ ?_ ?_ ?_
 ·intro j u m
  match j,m with
  | 0,m=>simp at m;subst m;simp [Addr.add]
 ·intro u B;simp at B;subst B;rfl
 ·unfold maxLen;omega
 ·omega
 ·simp;omega
 ·intro g w' f I _
  refine h g w' (by simpa [bW] using f) ((d.alloc y _).grown I (by simp;omega) fun k J=>(b.lt k J).1)
theorem qli {ops:Array Oper} {rest:List Oper} {o:Oper} {a:Act} {Q:Exit->Act->World->Prop} (W wr:World) (y:o.guard=none) (s x:Operand) (t:TypeId)
  (F:o.op=.call {callee:=.builtin .append,args:=#[s,x],argTypes:=#[t,t]})
  (base:Nat) (e:TypeId) (G:P.underlying t=some (.slice e)) (z:(P.info? e).map (fun i=>(i.zero,i.size,i.bytes))=some (some (.int .u8 0),1,1))
  (v:Value) (l:ak) (f:wr.ownsRow base e 1 v l.length (bW l)) (H:a.eval s=v) (g:Below base W wr) (hb:base<=W.heap.size)
  (b n c m:Nat) (d:ak) (I:d.length=m) (J:a.eval x=.slice (some ⟨b,n,none⟩) m c) (p:∀j,(h:j<d.length)->wr.cell? ⟨b,n+j,none⟩=some (.int .u8 (d[j]).toNat)) (E:l.length+d.length<=1000000000000)
  (h:∀r w',w'.ownsRow base e 1 r (l++d).length (bW (l++d))->Below base W w'->(r=.slice none 0 0↔v=.slice none 0 0∧d.length=0)->wpList P ops Q rest (a.put o.dst r) w'):
  wpList P ops Q (o::rest) a wr:=by
 obtain ⟨K,z,A,B,C⟩:=info_parts z;subst I;have L:base<=wr.heap.size:=by have:=g.size;omega
 refine wpList_append_own _ y s x t F base e K (.int .u8 0) 1 1 G z A B C rfl (by decide) v l.length (bW l) H f ⟨b,n,none⟩ d.length c (bW d) J (by simp) ?_ (FC d) ?_ ?_ ?_ ?_
 ·intro j u M
  obtain ⟨D,rfl⟩:=FD d j u M;simpa [Addr.add_lit] using p j D
 ·unfold maxLen;omega
 ·omega
 ·omega
 ·intro r w' q N w
  refine h r w' (by simpa [M5] using q) (g.grown N (by omega) fun k O=>(f.lt k O).1) w
theorem Vk {ops:Array Oper} {rest:List Oper} {o:Oper} {a:Act} {Q:Exit->Act->World->Prop} (W wr:World) (m:o.guard=none) (s x:Operand) (t:TypeId)
  (B:o.op=.call {callee:=.builtin .append,args:=#[s,x],argTypes:=#[t,t]})
  (base:Nat) (e:TypeId) (C:P.underlying t=some (.slice e)) (n:(P.info? e).map (fun i=>(i.zero,i.size,i.bytes))=some (some (.int .u8 0),1,1))
  (v:Value) (l:ak) (d:wr.ownsRow base e 1 v l.length (bW l)) (D:a.eval s=v) (f:Below base W wr) (hb:base<=W.heap.size)
  (I:Value) (r:ak) (E:Rd wr I r) (F:a.eval x=I) (g:l.length+r.length<=1000000000000)
  (h:∀w w',w'.ownsRow base e 1 w (l++r).length (bW (l++r))->Below base W w'->wpList P ops Q rest (a.put o.dst w) w'):
  wpList P ops Q (o::rest) a wr:=by
 rcases E with ⟨rfl,rfl | ⟨J,c,rfl⟩⟩ | ⟨b,G,c,rfl,T,U,p⟩
 ·obtain ⟨H,n,y,z,A⟩:=info_parts n
  refine wpList_append_own_none m s x t B base e H 1 C n v l.length (bW l) D d F (h _ _ ?_ f);simpa using d
 ·obtain ⟨H,n,y,z,A⟩:=info_parts n
  have K:base<=wr.heap.size:=by have:=f.size;omega
  refine wpList_append_own _ m s x t B base e H (.int .u8 0) 1 1 C n y z A rfl (by decide) v l.length (bW l) D d J 0 c [] F rfl ?_ ?_ ?_ ?_ ?_ ?_
  ·intro j u L;simp at L
  ·intro u M;simp at M
  ·unfold maxLen;simp at g;omega
  ·simp at g;omega
  ·omega
  ·intro w w' q N _
   exact h w w' (by simpa using q) (f.grown N (by omega) fun k O=>(d.lt k O).1)
 ·exact qli W wr m s x t B base e C n v l d D f hb b G c r.length r rfl F p g fun w w' R S _=>h w w' R S
theorem qip {ops:Array Oper} {rest:List Oper} {o:Oper} {a:Act} {Q:Exit->Act->World->Prop} (W wr:World) (j:o.guard=none) (s x:Operand) (t u:TypeId)
  (y:o.op=.call {callee:=.builtin .append,args:=#[s,x],argTypes:=#[t,u]})
  (base:Nat) (e:TypeId) (z:P.underlying t=some (.slice e)) (A:P.underlying u=some .string) (m:(P.info? e).map (fun i=>(i.zero,i.size,i.bytes))=some (some (.int .u8 0),1,1))
  (v:Value) (l:ak) (b:wr.ownsRow base e 1 v l.length (bW l)) (B:a.eval s=v) (c:Below base W wr) (hb:base<=W.heap.size)
  (d:ByteArray) (C:a.eval x=.string d) (w:l.length+d.size<=1000000000000)
  (h:∀g w',w'.ownsRow base e 1 g (l++d.data.toList).length (bW (l++d.data.toList))->Below base W w'->wpList P ops Q rest (a.put o.dst g) w'):
  wpList P ops Q (o::rest) a wr:=by
 obtain ⟨D,m,n,p,q⟩:=info_parts m;have E:base<=wr.heap.size:=by have:=c.size;omega
 have r:d.data.toList.length=d.size:=by rw [Array.length_toList];rfl
 refine Lib.wpList_append_own_string _ j s x t u y base e D z A m n p q v l.length (bW l) B b d C ?_ ?_ ?_ ?_
 ·unfold maxLen;omega
 ·omega
 ·omega
 ·intro g w' f F _
  refine h g w' ?_ (c.grown F (by omega) fun k G=>(b.lt k G).1)
  rw [List.length_append,r,M5];exact f
def bs (l:ak):ByteArray:=⟨l.toArray⟩
@[simp] theorem Lv (l:ak):(bs l).data.toList=l:=by simp [bs]
theorem Lx (l:ak):(bs l).size=l.length:=by show l.toArray.size=l.length;exact List.size_toArray
theorem qaep (s:ByteArray):bs s.data.toList=s:=by cases s;simp [bs]
theorem qq4 (l:ak):strOfNums (l.map fun x=>(x.toNat:Int))=bs l:=by
 have h:=strOfNums_data (l.map fun x=>(x.toNat:Int));rw [<-qaep (strOfNums _),h];congr 1
 rw [List.map_map];have:((fun n:Int=>UInt8.ofNat n.toNat) ∘ fun x:UInt8=>(x.toNat:Int))=id:=by
  funext x;simp
 rw [this,List.map_id]
theorem ik {w:World} {v:Value} {l:ak} (t e d:TypeId) (g:P.underlying t=some (.slice e)) (j:P.underlying e=some (.int .u8)) (hd:P.underlying d=some .string) (h:Rd w v l):
  (convert t d v).run P w=.ok (.string (bs l)) w:=by
 rcases h with ⟨rfl,rfl | ⟨a,c,rfl⟩⟩ | ⟨b,k,c,rfl,n,o,f⟩
 ·rw [run_convert_bytes_string w t d e none 0 0 g j hd]
  simp [Conv.bytesToString];rfl
 ·rw [run_convert_bytes_string w t d e (some a) 0 c g j hd,run_bytesToString w a 0 c [] (by simp [loadCells];rfl)]
  rfl
 ·rw [run_convert_bytes_arg w t e g j b k l.length c (l.map fun x=>(x.toNat:Int)) (by simp) (fun i m=>by
   rw [f i m];simp [List.getD,List.getElem?_eq_getElem m]) d hd,qq4]
end
def aL (S:World->Prop):Prop:=∀w w',S w->ah w w'->S w'
theorem aL.and {S R:World->Prop} (h:aL S) (k:aL R):aL (fun w=>S w∧R w):=fun w w' a b=>⟨h w w' a.1 b,k w w' a.2 b⟩
theorem qnh:aL (fun _=>True):=fun _ _ _ _=>trivial
theorem LA (v:Value) (l:ak):aL (fun w=>Rd w v l):=fun _ _ h a=>h.a a
theorem jW (w0:World):aL (fun w=>ah w0 w):=fun _ _ h a=>h.trans (a.mono h.size)
theorem pW {w w':World} {base:Nat} {e:TypeId} {size:Nat} {v:Value} {n:Nat} {b:List Value} (h:w.ownsRow base e size v n b) (hb:ah w w'):w'.ownsRow base e size v n b:=by
 refine ⟨h.1, ?_⟩;rcases h.2 with h | ⟨g,cap,a,rfl,d,c,f⟩
 ·exact .inl h
 ·refine .inr ⟨g,cap,a,rfl,d, ?_,f⟩
  rw [hb.block g (by have:=Array.getElem?_eq_some_iff.1 c;exact this.1)];exact c
section
variable {P:Program} {ops:Array Oper} {Q:Exit->Act->World->Prop} {md:Region.Mode}
theorem qlj {S S':World->Prop} (h:∀w,S' w->S w):∀(fuel:Nat) (listed:Array Bool) (a:Act) (w:World),wpAnyH P md ops Q S' fuel listed a w->wpAnyH P md ops Q S fuel listed a w
 | 0,_,_,_,k=>k
 | fuel+1,_,_,_,k=>⟨k.1,fun i c=>wpOp_mono (fun _ w' b=>⟨h w' b.1,qlj h fuel _ _ _ b.2⟩) (k.2 i c)⟩
theorem gH {S:World->Prop} (b:aL S) {c:Nat} {a:Act} {w:World} (d:P.follows .mixedOrders=true) (e:S w)
  (h:S w.drew->wpAnyH P .any ops (NoPanic Q) S ops.size (Array.replicate ops.size false) a w.drew):(Code.region c ops true).wp P Q a w:=
 wp_region_noPanic (wp_region_held d (h (b _ _ e aG)))
theorem bZ {S:World->Prop} {i:Nat} {dst:Option Tmp} {op:Op} {b:TypeId} {pos:String} {c:Array Edge} {d:Option (Nat × Bool)} {v:Value} {fuel:Nat} {listed:Array Bool} {a:Act} {w:World} (e:ops[i]? =some {dst:=dst,op:=op,type:=b,pos:=pos,after:=c,guard:=d})
  (hs:Region.noSelect ops=true) (f:Region.free md ops listed i=true) (g:(Region.ready md ops listed).contains i=true) (j:Region.wanted {dst:=dst,op:=op,type:=b,pos:=pos,after:=c,guard:=d} (yielded ops a.tmps)=true)
  (hy:∀w,S w->(execOp a.eval {dst:=dst,op:=op,type:=b,pos:=pos,after:=c,guard:=d}).run P w=.ok (.value v) w) (k:S w)
  (h:wpAnyH P md ops (NoPanic Q) S fuel (listed.setIfInBounds i true) (a.put dst v) w):wpAnyH P md ops (NoPanic Q) S (fuel+1) listed a w:=
 wpAnyH_take e hs f g (fun _ _ _ h=>h) (.inl ⟨j,hy⟩) k h
theorem nJ {S:World->Prop} {i:Nat} {dst:Option Tmp} {op:Op} {b:TypeId} {pos:String} {c:Array Edge} {d:Option (Nat × Bool)} {fuel:Nat} {listed:Array Bool} {a:Act} {w:World} (e:ops[i]? =some {dst:=dst,op:=op,type:=b,pos:=pos,after:=c,guard:=d})
  (hs:Region.noSelect ops=true) (f:Region.free md ops listed i=true) (g:(Region.ready md ops listed).contains i=true) (j:Region.wanted {dst:=dst,op:=op,type:=b,pos:=pos,after:=c,guard:=d} (yielded ops a.tmps)=false) (k:S w)
  (h:wpAnyH P md ops (NoPanic Q) S fuel (listed.setIfInBounds i true) (a.put dst undef) w):wpAnyH P md ops (NoPanic Q) S (fuel+1) listed a w:=
 wpAnyH_take e hs f g (fun _ _ _ h=>h) (.inr ⟨j,rfl⟩) k h
theorem Yx {S:World->Prop} {i:Nat} {dst:Option Tmp} {op:Op} {b:TypeId} {pos:String} {c:Array Edge} {d:Option (Nat × Bool)} {fuel:Nat} {listed:Array Bool} {a:Act} {w:World} (e:ops[i]? =some {dst:=dst,op:=op,type:=b,pos:=pos,after:=c,guard:=d})
  (f:Region.ready md ops listed=[i]) (g:Region.wanted {dst:=dst,op:=op,type:=b,pos:=pos,after:=c,guard:=d} (yielded ops a.tmps)=true)
  (h:Oper.wp P {dst:=dst,op:=op,type:=b,pos:=pos,after:=c,guard:=d} a w (fun a' w'=>S w'∧wpAnyH P md ops (NoPanic Q) S fuel (listed.setIfInBounds i true) a' w') (NoPanic Q)):wpAnyH P md ops (NoPanic Q) S (fuel+1) listed a w:=by
 refine wpAnyH_all (rs:=[i]) f (by simp) ?_
 intro j k;obtain rfl:j=i:=by simpa using k
 unfold wpOp;simp only [e,g,if_true];exact .inl h
theorem uS {S:World->Prop} {i:Nat} {dst:Option Tmp} {op:Op} {c:TypeId} {pos:String} {d:Array Edge} {e:Option (Nat × Bool)} {fuel:Nat} {listed:Array Bool} {a:Act} {w w':World} {v:Value} (f:ops[i]? =some {dst:=dst,op:=op,type:=c,pos:=pos,after:=d,guard:=e})
  (g:Region.ready md ops listed=[i]) (j:Region.wanted {dst:=dst,op:=op,type:=c,pos:=pos,after:=d,guard:=e} (yielded ops a.tmps)=true)
  (b:(execOp a.eval {dst:=dst,op:=op,type:=c,pos:=pos,after:=d,guard:=e}).run P w=.ok (.value v) w') (k:S w')
  (h:wpAnyH P md ops (NoPanic Q) S fuel (listed.setIfInBounds i true) (a.put dst v) w'):wpAnyH P md ops (NoPanic Q) S (fuel+1) listed a w:=by
 refine Yx f g j ?_
 unfold Oper.wp;rw [b];exact ⟨k,h⟩
theorem nZ {S:World->Prop} {i:Nat} {dst:Option Tmp} {op:Op} {c:TypeId} {pos:String} {d:Array Edge} {g:Option (Nat × Bool)} {fuel:Nat} {listed:Array Bool} {a:Act} {w:World} {f:FuncId} {args:Array Value} {R:Value->World->Prop} (j:ops[i]? =some {dst:=dst,op:=op,type:=c,pos:=pos,after:=d,guard:=g})
  (k:Region.ready md ops listed=[i]) (l:Region.wanted {dst:=dst,op:=op,type:=c,pos:=pos,after:=d,guard:=g} (yielded ops a.tmps)=true)
  (b:(execOp a.eval {dst:=dst,op:=op,type:=c,pos:=pos,after:=d,guard:=g}).run P w=.ok (.enter f args) w) (m:Calls P f args w fun e w'=>∃v,e=.returned v∧R v w')
  (h:∀v w',R v w'->S w'∧wpAnyH P md ops (NoPanic Q) S fuel (listed.setIfInBounds i true) (a.put dst v) w'):wpAnyH P md ops (NoPanic Q) S (fuel+1) listed a w:=by
 refine Yx j k l ?_
 unfold Oper.wp;rw [b];exact m.mono fun e w' ⟨v,he,hv⟩=>by subst he;exact h v w' hv
theorem qxt {o:Oper} {a:Act} {x:Operand} {t d e:TypeId} {v:Value} {l:ak} {w:World} (b:o.op=.convert t d x) (c:P.underlying t=some (.slice e)) (f:P.underlying e=some (.int .u8)) (hd:P.underlying d=some .string)
  (hv:a.eval x=v) (h:Rd w v l):(execOp a.eval o).run P w=.ok (.value (.string (bs l))) w:=by
 unfold execOp;simp [b,hv,ik t e d c f hd h]
theorem uT {S:World->Prop} (l:aL S) {i:Nat} {dst:Option Tmp} {op:Op} {d:TypeId} {pos:String} {g:Array Edge} {k:Option (Nat × Bool)} {fuel:Nat} {listed:Array Bool} {a:Act} {w:World} {f:FuncId} {args:Array Value} {R:Value->World->Prop} (m:ops[i]? =some {dst:=dst,op:=op,type:=d,pos:=pos,after:=g,guard:=k})
  (n:Region.ready md ops listed=[i]) (o:Region.wanted {dst:=dst,op:=op,type:=d,pos:=pos,after:=g,guard:=k} (yielded ops a.tmps)=true) (b:(execOp a.eval {dst:=dst,op:=op,type:=d,pos:=pos,after:=g,guard:=k}).run P w=.ok (.enter f args) w) (p:S w)
  (q:Calls P f args w fun e w'=>∃v,e=.returned v∧R v w'∧ah w w') (r:∀v,aL (R v))
  (h:∀v w',aL (fun w=>S w∧R v w)->R v w'->(S w'∧R v w')->wpAnyH P md ops (NoPanic Q) (fun w=>S w∧R v w) fuel (listed.setIfInBounds i true) (a.put dst v) w'):wpAnyH P md ops (NoPanic Q) S (fuel+1) listed a w:=by
 refine wpAnyH_all (rs:=[i]) n (by simp) ?_
 intro j s;obtain rfl:j=i:=by simpa using s
 unfold wpOp;simp only [m,o,if_true,Oper.wp,b,Oper.upon];refine .inl (q.mono ?_);rintro e w' ⟨v,rfl,hv,t⟩;have c:=l _ _ p t;exact ⟨c,qlj (fun _ h=>h.1) _ _ _ _ (h v w' (l.and (r v)) hv ⟨c,hv⟩)⟩
end
set_option linter.unusedVariables false
theorem aR (a:Addr) (v:Value):aL (fun w=>w.cell? a=some v):=fun w w' h b=>by
 show w'.cell? a=some v
 rw [b.cell (World.block_lt_of_cell? w _ h)];exact h
section
variable {P:Program} {md:Region.Mode} {ops:Array Oper} {Q:Exit->Act->World->Prop}
theorem qo {S:World->Prop} (k:aL S) {i:Nat} {dst:Option Tmp} {op:Op} {c:TypeId} {pos:String} {d:Array Edge} {g:Option (Nat × Bool)} {fuel:Nat} {listed:Array Bool} {a:Act} {w:World} {f:FuncId} {args:Array Value} {v:Value} (l:ops[i]? =some {dst:=dst,op:=op,type:=c,pos:=pos,after:=d,guard:=g})
  (m:Region.ready md ops listed=[i]) (n:Region.wanted {dst:=dst,op:=op,type:=c,pos:=pos,after:=d,guard:=g} (yielded ops a.tmps)=true) (b:(execOp a.eval {dst:=dst,op:=op,type:=c,pos:=pos,after:=d,guard:=g}).run P w=.ok (.enter f args) w) (o:S w)
  (p:Calls P f args w fun e w'=>e=.returned v∧ah w w')
  (h:∀w',S w'->wpAnyH P md ops (NoPanic Q) S fuel (listed.setIfInBounds i true) (a.put dst v) w'):wpAnyH P md ops (NoPanic Q) S (fuel+1) listed a w:=by
 refine nZ (R:=fun j w'=>j=v∧ah w w') l m n b (p.mono fun e w' ⟨h1,h2⟩=>⟨v,h1,rfl,h2⟩) ?_
 rintro j w' ⟨rfl,q⟩;have:=k _ _ o q
 exact ⟨this,h w' this⟩
theorem nL {S:World->Prop} {i:Nat} {dst:Option Tmp} {op:Op} {c:TypeId} {pos:String} {d:Array Edge} {e:Option (Nat × Bool)} {fuel:Nat} {listed:Array Bool} {a:Act} {w w':World} (f:ops[i]? =some {dst:=dst,op:=op,type:=c,pos:=pos,after:=d,guard:=e})
  (g:Region.ready md ops listed=[i]) (j:Region.wanted {dst:=dst,op:=op,type:=c,pos:=pos,after:=d,guard:=e} (yielded ops a.tmps)=true)
  (b:(execOp a.eval {dst:=dst,op:=op,type:=c,pos:=pos,after:=d,guard:=e}).run P w=.ok .skip w') (k:S w')
  (h:wpAnyH P md ops (NoPanic Q) S fuel (listed.setIfInBounds i true) (a.put dst undef) w'):wpAnyH P md ops (NoPanic Q) S (fuel+1) listed a w:=by
 refine Yx f g j ?_
 unfold Oper.wp;rw [b];exact ⟨k,h⟩
end
theorem sA (l:List Value) (i:Nat) (v:Value):l.toArray.setIfInBounds i v=(l.set i v).toArray:=by simp
theorem sB (x y:Value) (l:List Value):(x::l).set 0 y=y::l:=rfl
theorem sC (x y:Value) (l:List Value) (i:Nat):(x::l).set (i+1) y=x::l.set i y:=rfl
theorem bT {w a c:World} (A:af (ah w a)) (b:ah a c):af (ah w c):=A.o.trans (b.mono A.o.size)
end Go.Proofs.YthpammbgcidloaaGreat
