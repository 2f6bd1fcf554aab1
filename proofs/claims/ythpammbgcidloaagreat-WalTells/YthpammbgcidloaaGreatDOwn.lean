/-
  Disks of one's own behind a pointer: what stays where one row, or the disk's own cells, are written.
-/
import Derived.Test.YthpammbgcidloaaGreatDMap
set_option maxHeartbeats 1000000
set_option maxRecDepth 100000
namespace Go.Proofs.YthpammbgcidloaaGreat
open Go.RowKit
open Go.Maps (Keyed)
set_option linter.all false
theorem YU (n:Int) (l:List Pu) (p:Pu):jk n (l++[p])=if n=p.1 then some p.2 else jk n l:=by
 induction l with
 | nil=>
  by_cases e:p.1=n
  ·simp [jk,e]
  ·have a:¬n=p.1:=fun h=>e h.symm
   simp [jk,e,a]
 | cons q l ih=>
  rw [List.cons_append];show (match jk n (l++[p]) with | some b=>some b | none=>if q.1=n then some q.2 else none)=_
  rw [ih];by_cases e:n=p.1
  ·simp [e]
  ·simp only [e,if_false];rfl
theorem qvn (a:au) (n c:Nat) (l:List Pu) (w:World) (v:n=l.length) (F:l.length<=900000) (y:∀p∈l,0<=p.1∧p.1<1000000∧p.2.length=128) (h:RdW w (.slice a n c) l):
  Calls Tryz.prog 172 #[.slice a n c] w fun e w'=>∃b,e=.returned (.map (some b))∧Bm w' w.heap.size b n (fun k=>jk k l)∧ah w w':=by
 have G:=ag h;have z:=ag v;have H:=ag y;have I:n<=900000:=by omega
 clear h v F y;have s:=@run_makeMap Tryz.prog;go_enter Tryz.func172,Tryz.ntmps172;go_wp2;clear s;go_loopw [9] (fun i wr=>∃k:Nat,k<=n∧i=.int .i64 k∧af (Bm wr w.heap.size w.heap.size k (fun x=>jk x (l.take k)))∧ah w wr) (fun i _=>n - (intOf i).toNat)
 case atStart=>exact ⟨0,Nat.zero_le _,rfl,Bm.made w,ae⟩
 case round=>
  obtain ⟨k,S,rfl,A,f⟩:=hrel;by_cases J:k<n
  ·have j:(k:Int)<n:=by omega
   have g:k<l.length:=by have:=z.o;omega
   obtain ⟨b,K,rfl,T,x,m,d,U,B,C⟩:=(G.o.a f).at k g;obtain ⟨D,E,t⟩:=H.o _ (List.getElem_mem g);have L:=ag B;have M:=ag (C.trans t);have N:=ag D;have O:=ag E;have P:=ag t;clear B C D E t;go_wp2_with fail
   refine (YP w.heap.size w.heap.size k (fun x=>jk x (l.take k)) (l[k]).1 x m d (l[k]).2 _ (A.o.a (ae)) (by omega) N.o O.o P.o M.o (L.o.alloc _)).mono ?_
   rintro e Q ⟨rfl,q,r⟩;have R:=ag q;have u:ah w Q:=(f.alloc f.size _).trans r;clear q r;go_wp2;go_roundw
   case rel=>
    refine ⟨k+1,by omega,by go_num,ag ?_,u⟩;have e:(fun x=>jk x (l.take (k+1)))=fun x=>if x=(l[k]).1 then some (l[k]).2 else jk x (l.take k):=by
     funext x
     rw [List.take_succ_eq_append_getElem g,YU]
    rw [e];exact R.o
   case measure=>simp [intOf]<;>omega
  ·have j:decide ((k:Int)<n)=false:=aA (by omega)
   obtain rfl:k=n:=by omega
   go_wp2;go_ret;refine ⟨_,rfl, ?_,f⟩;have:=A.o
   rw [List.take_of_length_le (by have:=z.o;omega)] at this;exact this
/-! ### blocks of data -/
theorem qgo (data l:ak) (n:Nat) (a:l.length=128) (b:128*n+128<=data.length):blk (splice data (n*128) l) n=l:=by
 unfold blk splice;have e:(data.take (n*128)).length=128*n:=by rw [List.length_take];omega
 rw [List.drop_append_of_le_length (by omega),List.drop_of_length_le (by omega),List.nil_append,List.take_append_of_le_length (by omega),List.take_of_length_le (by omega)]
theorem qf9 (data l:ak) (n a:Nat) (f:l.length=128) (g:128*n+128<=data.length) (d:a≠n):blk (splice data (n*128) l) a=blk data a:=by
 unfold blk splice;apply List.ext_getElem?;intro j;simp only [List.getElem?_take,List.getElem?_drop,List.getElem?_append,List.length_take];by_cases b:j<128
 ·simp only [b,if_true]
  have e:min (n*128) data.length=n*128:=by omega
  rw [e];by_cases c:128*a+j<n*128
  ·simp [c]
  ·rw [if_neg c,if_neg (by omega)]
   congr 1
   omega
 ·simp [b]
theorem YV (data l:ak) (n:Nat) (a:l.length=128) (b:128*n+128<=data.length):(splice data (n*128) l).length=data.length:=length_splice _ _ _ (by omega)
theorem YW {a b:ak} (k:Nat) (c:a.length=128*k) (hb:b.length=128*k) (h:∀n,n<k->blk a n=blk b n):a=b:=by
 apply List.ext_getElem?;intro j;by_cases d:j<128*k
 ·have:=congrArg (fun x=>x[j % 128]?) (h (j / 128) (by omega))
  simp only [blk,List.getElem?_take,List.getElem?_drop] at this;rw [if_pos (by omega),if_pos (by omega),show 128*(j / 128)+j % 128=j by omega] at this;exact this
 ·rw [List.getElem?_eq_none (by omega),List.getElem?_eq_none (by omega)]
theorem Vt (data:ak) (p:Pu) (a:p.2.length=128):nM data p=splice data (p.1.toNat*128) p.2:=by
 unfold nM splice;rw [a,Nat.mul_comm]
theorem Vu (data:ak):∀(l:List Pu) (d:ak),d.length=data.length->(∀p∈l,0<=p.1∧128*p.1.toNat+128<=data.length∧p.2.length=128)->(mg d l).length=data.length
 | [],d,hd,_=>hd
 | p::l,d,hd,h=>by
  obtain ⟨c,e,a⟩:=h p (List.mem_cons_self ..);refine Vu data l (nM d p) ?_ (fun q b=>h q (List.mem_cons_of_mem _ b))
  rw [Vt d p a,YV _ _ _ a (by omega),hd]
theorem YX (data:ak) (n:Nat):∀(l:List Pu) (d:ak),d.length=data.length->(∀p∈l,0<=p.1∧128*p.1.toNat+128<=data.length∧p.2.length=128)->blk (mg d l) n=(jk n l).getD (blk d n)
 | [],d,hd,_=>rfl
 | p::l,d,hd,h=>by
  obtain ⟨k,m,a⟩:=h p (List.mem_cons_self ..);have c:(nM d p).length=data.length:=by rw [Vt d p a,YV _ _ _ a (by omega),hd]
  have g:=YX data n l (nM d p) c (fun q i=>h q (List.mem_cons_of_mem _ i));have e1:mg d (p::l)=mg (nM d p) l:=rfl;rw [e1,g];have j:jk n (p::l)=(match jk n l with | some b=>some b | none=>if p.1=n then some p.2 else none):=rfl;rw [j];cases e:jk n l with
  | some b=>rfl
  | none=>
   show blk (nM d p) n=_
   rw [Vt d p a];by_cases f:p.1=n
   ·rw [if_pos f]
    have:p.1.toNat=n:=by omega
    rw [this];exact qgo d p.2 n a (by omega)
   ·rw [if_neg f]
    exact qf9 d p.2 p.1.toNat n a (by omega) (by omega)
open Go.Maps (Keyed)
theorem qra {P:Program} (w:World) {t:Array Oper} {rest:List Oper} {o:Oper} {a:Act} {Q:Exit->Act->World->Prop} (B:o.guard=none) (d s:Operand) (x:TypeId)
  (L:o.op=.call {callee:=.builtin .copy,args:=#[d,s],argTypes:=#[x,x]}) (M:P.underlying x=some (.slice 5)) (C:(P.info? 5).map (·.size)=some 1)
  (base g f n p:Nat) (hd:a.eval d=.slice (some ⟨g,f,none⟩) n p) (v:Value) (l:ak) (N:a.eval s=v) (D:Rd w v l) (y:l≠[]) (E:l.length<=n)
  (len cap:Nat) (data:ak) (z:aX w base (.slice (some ⟨g,0,none⟩) len cap) data) (A:f+l.length<=data.length)
  (h:∀w',w.grownBy w' (some g)->aX w' base (.slice (some ⟨g,0,none⟩) len cap) (splice data f l)->wpList P t Q rest (a.put o.dst (goInt l.length)) w'):
  wpList P t Q (o::rest) a w:=by
 rcases D with ⟨e,_⟩ | ⟨b,of,c,rfl,Y,Z,q⟩
 ·exact absurd e y
 ·have i:(bW l).length=l.length:=by simp [bW]
  have F:(bW data).length=data.length:=by simp [bW]
  obtain ⟨hx,O | ⟨g',I,m,e,R,J,S,T,K,U⟩⟩:=z
  ·cases O.1
  ·cases e
   have G:m.toList.take data.length=bW data:=by rw [<-U,Nat.mul_one]
   have V:data.length<=m.size:=by rw [K];omega
   refine wpList_copy_own B d s x x L 5 M C g f n p ⟨b,of,none⟩ l.length c hd N m _ J (bW l) (by rw [i];exact (Nat.min_eq_left E).symm) ?_ (by rw [i];omega) (FC l) ?_
   ·intro j u W
    obtain ⟨H,rfl⟩:=FD l j u W;rw [Addr.add_lit];exact q j H
   ·rw [i]
    refine h _ ⟨rfl,rfl,rfl,by simp [World.setRow],fun k _ X=>setRow_other w g k _ (fun e=>X (by rw [e]))⟩ ?_
    have r:(splice data f l).length=data.length:=length_splice _ _ _ A;refine ⟨by simp [bW],.inr ⟨g,cap,_,by rw [r],R,setRow_heap w g _ _ _ _ J,by rw [r];exact S,T, ?_, ?_⟩⟩
    ·have hz:m.toList.length=cap*1:=by rw [Array.length_toList,K]
     simp [i];omega
    ·rw [r,YO,i,Nat.mul_one]
     show ((m.toList.take f++(bW l++m.toList.drop (f+l.length))).take data.length)=_
     rw [List.take_append,List.take_append,List.take_take,List.length_take,i,Nat.min_eq_left (by rw [Array.length_toList];omega:f<=m.toList.length),Nat.min_eq_right (by omega:f<=data.length),List.take_of_length_le (by omega:(bW l).length<=data.length - f),<-G,List.take_take,Nat.min_eq_left (by omega:f<=data.length),List.drop_take];rw [Nat.sub_sub]
theorem qzt {w a b:World} {g r:Nat} (h:w.grownBy a (some g)) (k:a.grownBy b (some r)) (f:w.heap.size<=r):w.grownBy b (some g):=
 ⟨k.os.trans h.os,k.tape.trans h.tape,k.output.trans h.output,aC h.size k.size,fun i c d=>(k.block i (Nat.lt_of_lt_of_le c h.size) (fun e=>by cases e;omega)).trans (h.block i c d)⟩
theorem Vv {w a:World} (h:w.grownBy a none) (g:Option Nat):w.grownBy a g:=⟨h.os,h.tape,h.output,h.size,fun i b _=>h.block i b (by simp)⟩
def FN:Option Nat->Value
 | some g=>.slice (some ⟨g,0,none⟩) 128 128
 | none=>.slice none 0 0
theorem YY (v:Value) (y:DataW Unit × List MemPlace) (h:sI v=some y):∃c,v=FN c:=by
 rcases FM h with ⟨rfl,_⟩ | ⟨g,rfl,_⟩
 ·exact ⟨none,rfl⟩
 ·exact ⟨some g,rfl⟩
theorem YZ (base b n:Nat) (M:Int->Option (ak)) (baseD f len cap cnt:Nat) (data:ak) (w:World) (hm:Bm w base b n M) (m:aX w baseD (.slice (some ⟨f,0,none⟩) len cap) data) (ao:f<base) (p:data.length=128*cnt) (Q:1<=cnt) (al:cnt<=1000000)
  (hM:∀k l,M k=some l->0<=k∧k<cnt):
  Calls Tryz.prog 207 #[.map (some b),.slice (some ⟨f,0,none⟩) len cap] w fun e w'=>e=.returned (.tuple #[])∧w.grownBy w' (some f)∧∃a,aX w' baseD (.slice (some ⟨f,0,none⟩) len cap) a∧a.length=data.length∧∀k:Nat,k<cnt->blk a k=(M k).getD (blk data k):=by
 obtain ⟨D,G,h1,h2,h3,h4,h5,h6⟩:=hm;have q:len=128*cnt∧len<=cap∧cap<=maxLen:=by
  obtain ⟨hx,h' | ⟨R,am,ap,e,_,_,e3,e4,_⟩⟩:=m
  ·cases h'.1
  ·cases e;exact ⟨p,e3,e4⟩
 obtain ⟨q,aq,S⟩:=q;unfold maxLen at S;have T:=ag h3;have H4:=ag h4;have H5:=ag h5;have HM:=ag hM;have U:=ag m;have HL:=ag p;have HV:=ag q;clear q h3 h4 h5 h6 hM m p;go_enter Tryz.func207,Tryz.ntmps207
 go_wp2_with (first
  | (at_range;refine wpList_range_own _ rfl _ 238 rfl 3 22 LD Tryz.underlying238 sI b n D rfl h1 ?_;intro w0 J Ni ar;go_frame)
  | go_in)
 go_loopw [4] (fun _ wr=>∃(left:Lit->Bool) (k:Nat) (s:ak),wr.ranges Tryz.prog 3 sI b w.heap.size n D left k∧af (aX wr baseD (.slice (some ⟨f,0,none⟩) len cap) s∧s.length=data.length∧∀j:Nat,j<cnt->blk s j=if left (.int .i64 j) then blk data j else (M j).getD (blk data j))∧af (w.grownBy wr (some f)))
  (fun _ wr=>wr.rangeLeft b w.heap.size)
 case atStart=>
  refine ⟨_,_,data,J,⟨World.ownsRow.kept U.o Ni (.inr (by simp [Value.ownBlock])),rfl,fun j E=>?_⟩,Vv Ni _⟩;cases e:M j with
  | none=>split<;>rfl
  | some l=>
   obtain ⟨g,eg,_⟩:=H5.o j l e;rw [if_pos (Maps.has_true_of_atKey (y:=.lit (.int .i64 g)) (fun z=>by rw [T.o,eg]))]
 case round=>
  obtain ⟨left,k,s,K,d,L⟩:=hrel
  go_wp2_with (first
   | (at_next;refine wpList_next_ranges _ rfl _ rfl 3 LD sI (Value.int .i64) FN (fun av kl h=>by obtain ⟨x,h,_⟩:=Maps.keyOf_int_inv Tryz.underlying3 h;exact ⟨x,h⟩) YY b w.heap.size n _ _ _ rfl K ?_ ?_)
   | go_in)
  ·intro Q V
   go_wp2;refine bodyPost_end (v:=.tuple #[]) ?_ rfl ⟨rfl,L.o,s,d.o.1,d.o.2.1,fun j E=>?_⟩
   ·simp [results,Tryz.results207,go_sem]
   ·rw [d.o.2.2 j E,V];simp
  ·intro x c kl yd yp F k1 t N hv r u W C X Y
   obtain ⟨x',ex,rfl,_⟩:=Maps.keyOf_int_inv Tryz.underlying3 t;cases ex;obtain ⟨g,rfl,Z⟩:∃g,c=some g∧G x=some g:=by
    cases eG:G x with
    | none=>
     have A:=r .nil;have a2:=r (.lit (.bool true));rw [T.o,eG] at A a2;rw [<-A] at a2;cases a2
    | some g=>
     have A:=r .nil;rw [T.o,eG] at A;rcases FM hv with ⟨_,e⟩ | ⟨R,e,e'⟩
     ·have e:yd=.nil:=e
      rw [e] at A;cases A
     ·have e':yd=.lit (.int .i64 R):=e'
      rw [e'] at A;cases A;cases c with
      | none=>cases e
      | some g2=>cases e;exact ⟨_,rfl,rfl⟩
   obtain ⟨l,Y1,H⟩:∃l,M x=some l∧zt w base g l:=by
    cases e:M x with
    | none=>rw [H4.o x e] at Z;cases Z
    | some l=>
     obtain ⟨R,e1,e2⟩:=H5.o x l e;rw [Z] at e1;cases e1;exact ⟨l,rfl,e2⟩
   obtain ⟨aw,ax⟩:=HM.o x l Y1;obtain ⟨i,rfl⟩:∃i:Nat,x=i:=⟨x.toNat,by omega⟩;have aJ:w.grownBy F (some f):=qzt L.o C aI;have O:zt F base g l:=H.kept aJ (by intro e;cases e;exact absurd H.1 (by omega))
   have nQ:Rd F (.slice (some ⟨g,0,none⟩) 128 128) l:=by
    refine .inr ⟨g,0,128,by rw [H.2.1],by rw [H.2.1];exact Nat.le_refl _,by unfold maxLen;omega,fun j E=>?_⟩;have:=World.news_of_block (w:=F) O.2.2 j (.int .u8 (l[j]).toNat) (by simp [bW,List.getElem?_eq_getElem E])
    rwa [Addr.add_lit] at this
   have Nj:aX F baseD (.slice (some ⟨f,0,none⟩) len cap) s:=World.ownsRow.kept d.o.1 C (.inr (by
    have an:=(World.ownsRow.lt U.o f rfl).2;simp only [Value.ownBlock];intro e;cases e;omega))
   have aa:=ag nQ;have rO:=ag Nj;have fF:=ag aJ;have I:=ag H.2.1;have ab:=ag Y1;have Y2:=ag u;have HE:=ag N;have ay:wrap64 ((i:Int)*128)=((i*128:Nat):Int):=by unfold wrap64;omega
   have aD:i*128+128<=len:=by have:=HV.o;omega
   have aE:¬i*128=cap:=by omega
   have ac:=d.o.2.1;have Y3:=HL.o;have P:=ag (show 128*i+128<=s.length by omega);clear nQ Nj aJ O H Y1 u t N hv r C X ac Y3;unfold FN at Y ⊢;go_wp2_with (refine qra F rfl (.tmp 16) (.tmp 17) 22 rfl Tryz.underlying22 Tryz.sizeB baseD f (i*128) (len - i*128) (cap - i*128) rfl _ l rfl aa.o (by intro e;have:=I.o;rw [e] at this;cases this) (by have:=I.o;omega) len cap s rO.o (by have:=I.o;have:=P.o;omega) ?_;intro w2 aM ad;go_frame)
   have B:=Y2.o.kept aM (fun e=>by cases e;omega) (fun e=>by have:=Option.some.inj e;have:=(World.ownsRow.lt U.o f rfl).2;omega);go_roundw
   case rel=>
    refine ⟨_,k1,_,B,⟨ad, ?_,fun j E=>?_⟩,nP fF.o aM⟩
    ·rw [YV _ _ _ I.o P.o,d.o.2.1]
    ·by_cases e:j=i
     ·subst e
      rw [qgo _ _ _ I.o P.o,ab.o];simp [Lit.sameKey]
     ·rw [qf9 _ _ _ _ I.o P.o e,d.o.2.2 j E]
      have:(Lit.int IntKind.i64 (j:Int)).sameKey (.int .i64 (i:Int))=false:=by simp [Lit.sameKey];omega
      simp [this]
   case measure=>rw [B.left_eq,K.left_eq];exact W
theorem Nk {w w':World} {base:Nat} {e:TypeId} {s:Nat} {v:Value} {n:Nat} {b:List Value} {row:Option Nat} (h:w.ownsRow base e s v n b) (f:w.grownBy w' row) (a:∀k,row=some k->∃cs t c,w.heap[k]? =some (.cells cs t c)∧t≠e):w'.ownsRow base e s v n b:=by
 refine h.kept f ?_
 rcases h.2 with ⟨rfl,_⟩ | ⟨g,cap,i,rfl,_,j,_⟩
 ·exact .inl rfl
 ·right
  intro l;obtain ⟨cs,t,c,d,m⟩:=a g (by rw [<-l];rfl);rw [j] at d;cases d;exact m rfl
theorem aX.keptT {w w':World} {base:Nat} {v:Value} {l:ak} {row:Option Nat} (h:aX w base v l) (b:w.grownBy w' row) (a:∀k,row=some k->∃cs t c,w.heap[k]? =some (.cells cs t c)∧t≠5):aX w' base v l:=Nk h b a
theorem kG.keptT {w w':World} {base:Nat} {v:Value} {l:List Pu} {row:Option Nat} (h:kG w base v l) (g:w.grownBy w' row) (d:∀k,row=some k->∃cs t e,w.heap[k]? =some (.cells cs t e)∧t≠5∧t≠94):kG w' base v l:=by
 obtain ⟨z,i,j,m⟩:=h;exact ⟨z,i,Nk j g (fun k f=>by obtain ⟨cs,t,e,a,b,c⟩:=d k f;exact ⟨cs,t,e,a,c⟩),fun p n=>(m p n).keptT g (fun k f=>by obtain ⟨cs,t,e,a,b,c⟩:=d k f;exact ⟨cs,t,e,a,b⟩)⟩
theorem lQ.keptT {w w':World} {base:Nat} {v:Value} {l:List Ac} {row:Option Nat} (h:lQ w base v l) (g:w.grownBy w' row) (d:∀k,row=some k->∃cs t e,w.heap[k]? =some (.cells cs t e)∧t≠5∧t≠151):lQ w' base v l:=by
 obtain ⟨z,i,j,m⟩:=h;exact ⟨z,i,Nk j g (fun k f=>by obtain ⟨cs,t,e,a,b,c⟩:=d k f;exact ⟨cs,t,e,a,c⟩),fun p n=>(m p n).keptT g (fun k f=>by obtain ⟨cs,t,e,a,b,c⟩:=d k f;exact ⟨cs,t,e,a,b⟩)⟩
theorem vk {w:World} {base:Nat} {e:TypeId} {s:Nat} {v:Value} {n:Nat} {b:List Value} (h:w.ownsRow base e s v n b) (k:Nat) (a:v.ownBlock=some k):∃cs,w.heap[k]? =some (.cells cs e (0,0)):=by
 rcases h.2 with ⟨rfl,_⟩ | ⟨g,cap,c,rfl,_,d,_⟩
 ·cases a
 ·cases a;exact ⟨_,d⟩
def Dp (w:World) (base gD B:Nat) (d:Dk):Prop:=∃g0 cap a2 c2 a3 c3,
 w.heap[gD]? =some (.cells #[.slice (some ⟨g0,0,none⟩) d.1.length cap,.slice a2 d.2.1.length c2,.slice a3 d.2.2.length c3] 26 (0,0))∧base<=g0∧g0<B∧B<=w.heap.size∧base<=gD∧
 aX w base (.slice (some ⟨g0,0,none⟩) d.1.length cap) d.1∧kG w B (.slice a2 d.2.1.length c2) d.2.1∧lQ w B (.slice a3 d.2.2.length c3) d.2.2
theorem Dp.a {w w':World} {base gD B:Nat} {d:Dk} (h:Dp w base gD B d) (hb:ah w w'):Dp w' base gD B d:=by
 obtain ⟨a,cap,a2,c2,a3,c3,b,c,e,f,g,i,j,k⟩:=h;exact ⟨a,cap,a2,c2,a3,c3,eH _ _ _ _ b hb,c,e,aC f hb.size,g,i.a hb,j.a hb,k.a hb⟩
theorem Vw:(94≠5∧151≠5∧26≠5)∧(94≠151∧26≠94∧26≠151):=by decide
theorem Dp.waited {w f j ws:World} {base gD B i cap:Nat} {a2 a3:au} {c2 c3:Nat} {d:Dk} {N:Int} {l:ak} {p:Value} {s:Value}
  (I:base<=i) (u:i<B) (v:B<=f.heap.size) (J:base<=gD)
  (hd:f.heap[gD]? =some (.cells #[.slice (some ⟨i,0,none⟩) d.1.length cap,.slice a2 d.2.1.length c2,.slice a3 d.2.2.length c3] 26 (0,0)))
  (K:aX f base (.slice (some ⟨i,0,none⟩) d.1.length cap) d.1) {z:List (Pu × Value)} (L:z.map (·.1)=d.2.1) (M:f.ownsRow B 94 2 (.slice a2 d.2.1.length c2) d.2.1.length (xy z)) (x:∀p∈z,aX f B p.2 p.1.2) (O:lQ f B (.slice a3 d.2.2.length c3) d.2.2)
  (P:aX f B p l) (m:j.ownsRow B 94 2 s (d.2.1.length+1) (xy z++[.int .i64 N,p])) (n:f.grownBy j (Value.slice a2 d.2.1.length c2).ownBlock) (o:j.grownBy ws (some gD))
  (y:ws.heap[gD]? =some (.cells #[.slice (some ⟨i,0,none⟩) d.1.length cap,s,.slice a3 d.2.2.length c3] 26 (0,0))):
  Dp ws base gD B (d.1,d.2.1++[(N,l)],d.2.2):=by
 obtain ⟨⟨A,Y,C⟩,Q,R,S⟩:=Vw;have r:∀k,(Value.slice a2 d.2.1.length c2).ownBlock=some k->∃cs a,f.heap[k]? =some (.cells cs 94 a):=fun k c=>by
  obtain ⟨cs,h⟩:=vk M k c;exact ⟨cs,_,h⟩
 have T:j.heap[gD]? =some (.cells #[.slice (some ⟨i,0,none⟩) d.1.length cap,.slice a2 d.2.1.length c2,.slice a3 d.2.2.length c3] 26 (0,0)):=by
  refine (n.block gD (Array.getElem?_eq_some_iff.1 hd).1 ?_).trans hd;intro e;obtain ⟨cs,a,h⟩:=r gD e.symm;rw [hd] at h;cases h
 have g:∀k,some gD=some k->∃cs t a,j.heap[k]? =some (.cells cs t a)∧t=26:=fun k c=>by cases c;exact ⟨_,_,_,T,rfl⟩
 have U:aX ws base (.slice (some ⟨i,0,none⟩) d.1.length cap) d.1:=(K.keptT n (fun k c=>by obtain ⟨cs,a,h⟩:=r k c;exact ⟨cs,_,a,h,A⟩)).keptT o (fun k c=>by obtain ⟨cs,t,a,h,rfl⟩:=g k c;exact ⟨cs,_,a,h,C⟩);have V:lQ ws B (.slice a3 d.2.2.length c3) d.2.2:=(O.keptT n (fun k c=>by obtain ⟨cs,a,h⟩:=r k c;exact ⟨cs,_,a,h,A,Q⟩)).keptT o (fun k c=>by obtain ⟨cs,t,a,h,rfl⟩:=g k c;exact ⟨cs,_,a,h,C,S⟩);have G:∀{b q l},aX f b q l->aX ws b q l:=fun h=>(h.keptT n (fun k c=>by obtain ⟨cs,a,h⟩:=r k c;exact ⟨cs,_,a,h,A⟩)).keptT o (fun k c=>by obtain ⟨cs,t,a,h,rfl⟩:=g k c;exact ⟨cs,_,a,h,C⟩)
 have W:=Nk m o (fun k c=>by obtain ⟨cs,t,a,h,rfl⟩:=g k c;exact ⟨cs,_,a,h,R⟩);have D:(d.2.1++[(N,l)]).length=d.2.1.length+1:=by simp
 have H:kG ws B s (d.2.1++[(N,l)]):=by
  refine ⟨z++[((N,l),p)],by simp [L],by rw [D,YG];exact W,fun q X=>?_⟩;rcases List.mem_append.1 X with h | h
  ·exact G (x q h)
  ·rw [List.mem_singleton.1 h];exact G P
 obtain ⟨E,F,rfl⟩:=H.rd.form;exact ⟨i,cap,E,F,a3,c3,y,I,u,aC v (aC n.size o.size),J,U,H,V⟩
theorem Dp.did {w f j ws:World} {base gD B g cap:Nat} {a2 a3:au} {c2 c3:Nat} {d:Dk} {s:Bool} {N:Int} {l:ak} {p:Value} {r:Value}
  (J:base<=g) (u:g<B) (v:B<=f.heap.size) (K:base<=gD)
  (hd:f.heap[gD]? =some (.cells #[.slice (some ⟨g,0,none⟩) d.1.length cap,.slice a2 d.2.1.length c2,.slice a3 d.2.2.length c3] 26 (0,0)))
  (L:aX f base (.slice (some ⟨g,0,none⟩) d.1.length cap) d.1) {z:List (Ac × Value)} (M:z.map (·.1)=d.2.2) (O:f.ownsRow B 151 3 (.slice a3 d.2.2.length c3) d.2.2.length (uY z)) (x:∀p∈z,aX f B p.2 p.1.2.2) (P:kG f B (.slice a2 d.2.1.length c2) d.2.1)
  (Q:aX f B p l) (m:j.ownsRow B 151 3 r (d.2.2.length+1) (uY z++[.bool s,.int .i64 N,p])) (n:f.grownBy j (Value.slice a3 d.2.2.length c3).ownBlock) (o:j.grownBy ws (some gD))
  (y:ws.heap[gD]? =some (.cells #[.slice (some ⟨g,0,none⟩) d.1.length cap,.slice a2 d.2.1.length c2,r] 26 (0,0))):
  Dp ws base gD B (d.1,d.2.1,d.2.2++[(s,N,l)]):=by
 obtain ⟨⟨Z,G,H⟩,R,S,T⟩:=Vw;have A:∀k,(Value.slice a3 d.2.2.length c3).ownBlock=some k->∃cs a,f.heap[k]? =some (.cells cs 151 a):=fun k c=>by
  obtain ⟨cs,h⟩:=vk O k c;exact ⟨cs,_,h⟩
 have U:j.heap[gD]? =some (.cells #[.slice (some ⟨g,0,none⟩) d.1.length cap,.slice a2 d.2.1.length c2,.slice a3 d.2.2.length c3] 26 (0,0)):=by
  refine (n.block gD (Array.getElem?_eq_some_iff.1 hd).1 ?_).trans hd;intro e;obtain ⟨cs,a,h⟩:=A gD e.symm;rw [hd] at h;cases h
 have i:∀k,some gD=some k->∃cs t a,j.heap[k]? =some (.cells cs t a)∧t=26:=fun k c=>by cases c;exact ⟨_,_,_,U,rfl⟩
 have C:∀{b q l},aX f b q l->aX ws b q l:=fun h=>(h.keptT n (fun k c=>by obtain ⟨cs,a,h⟩:=A k c;exact ⟨cs,_,a,h,G⟩)).keptT o (fun k c=>by obtain ⟨cs,t,a,h,rfl⟩:=i k c;exact ⟨cs,_,a,h,H⟩)
 have V:=C L;have W:kG ws B (.slice a2 d.2.1.length c2) d.2.1:=(P.keptT n (fun k c=>by obtain ⟨cs,a,h⟩:=A k c;exact ⟨cs,_,a,h,G,Ne.symm R⟩)).keptT o (fun k c=>by obtain ⟨cs,t,a,h,rfl⟩:=i k c;exact ⟨cs,_,a,h,H,S⟩);have X:=Nk m o (fun k c=>by obtain ⟨cs,t,a,h,rfl⟩:=i k c;exact ⟨cs,_,a,h,T⟩);have D:(d.2.2++[(s,N,l)]).length=d.2.2.length+1:=by simp
 have I:lQ ws B r (d.2.2++[(s,N,l)]):=by
  refine ⟨z++[((s,N,l),p)],by simp [M],by rw [D,YH];exact X,fun q Y=>?_⟩;rcases List.mem_append.1 Y with h | h
  ·exact C (x q h)
  ·rw [List.mem_singleton.1 h];exact C Q
 obtain ⟨E,F,rfl⟩:=I.rd.form;exact ⟨g,cap,a2,c2,E,F,y,J,u,aC v (aC n.size o.size),K,V,W,I⟩
theorem qlq {a:World} {base gD B c cap:Nat} {a2 a3:au} {c2 c3:Nat} {d:Dk} {N:Int} {l:ak} {m:au} {n:Nat}
  (H:base<=c) (t:c<B) (q:B<=a.heap.size) (I:base<=gD)
  (hd:a.heap[gD]? =some (.cells #[.slice (some ⟨c,0,none⟩) d.1.length cap,.slice a2 d.2.1.length c2,.slice a3 d.2.2.length c3] 26 (0,0)))
  (J:aX a base (.slice (some ⟨c,0,none⟩) d.1.length cap) d.1) (K:kG a B (.slice a2 d.2.1.length c2) d.2.1) (L:lQ a B (.slice a3 d.2.2.length c3) d.2.2) (M:aX a B (.slice m l.length n) l) (hl:d.2.1.length<=1000000):
  ∃o p f,(Builtin.append_ #[23,23] 23 #[.slice a2 d.2.1.length c2,.slice (some ⟨a.heap.size,0,none⟩) 1 1]).run Tryz.prog (a.alloc (.cells #[.int .i64 N,.slice m l.length n] 94))=.ok (.slice o (d.2.1.length+1) p) f∧a.grownBy f (Value.slice a2 d.2.1.length c2).ownBlock∧
   f.heap[gD]? =some (.cells #[.slice (some ⟨c,0,none⟩) d.1.length cap,.slice a2 d.2.1.length c2,.slice a3 d.2.2.length c3] 26 (0,0))∧
   ∀ws,f.grownBy ws (some gD)->ws.heap[gD]? =some (.cells #[.slice (some ⟨c,0,none⟩) d.1.length cap,.slice o (d.2.1.length+1) p,.slice a3 d.2.2.length c3] 26 (0,0))->Dp ws base gD B (d.1,d.2.1++[(N,l)],d.2.2):=by
 obtain ⟨v,x⟩:=ai (a.alloc (.cells #[.int .i64 N,.slice m l.length n] 94));rw [<-x];have b:ah a v:=by rw [x];exact ae
 have O:∀j u,([Value.int .i64 N,.slice m l.length n]:List Value)[j]? =some u->v.cell? ((⟨a.heap.size,0,none⟩:Addr).add j)=some u:=by
  intro j u Q;rw [x];have:=World.news_of_block (w:=a.alloc (.cells #[.int .i64 N,.slice m l.length n] 94)) (heap_alloc_new a _) j u (by simpa using Q)
  simpa using this
 obtain ⟨R,r,y,A,C⟩:=info_parts Tryz.infoPut;obtain ⟨z,S,D,T⟩:=K.a b;obtain ⟨U,f,V,F,k,_⟩:=run_append_own (P:=Tryz.prog) v B 23 23 94 R _ 2 32 Tryz.underlying23 r y A C rfl (by decide) _ _ _ D ⟨a.heap.size,0,none⟩ 1 1 [.int .i64 N,.slice m l.length n] rfl O (by intro u G;simp at G;rcases G with rfl | rfl<;>rfl) (by unfold maxLen;omega) (by omega) (aC q b.size);have s:=eH _ _ _ _ hd b;have W:f.heap[gD]? =some (.cells #[.slice (some ⟨c,0,none⟩) d.1.length cap,.slice a2 d.2.1.length c2,.slice a3 d.2.2.length c3] 26 (0,0)):=by
  refine (k.block gD (Array.getElem?_eq_some_iff.1 s).1 ?_).trans s;intro e;obtain ⟨cs,h⟩:=vk D gD e.symm;rw [s] at h;cases h
 obtain ⟨o,p,rfl⟩:∃o p,U=.slice o (d.2.1.length+1) p:=by
  rcases F.2 with ⟨_,h⟩ | ⟨g,cap,X,h,_⟩
  ·exact absurd h (by omega)
  ·exact ⟨_,_,h⟩
 refine ⟨o,p,f,V, ?_,W,fun ws Y E=>Dp.waited (w:=a) H t (aC q b.size) I s (J.a b) S D T (L.a b) (M.a b) F k Y E⟩;have:=xB b
 exact ⟨k.os.trans this.os,k.tape.trans this.tape,k.output.trans this.output,aC this.size k.size,fun i r Z=>(k.block i (Nat.lt_of_lt_of_le r this.size) Z).trans (this.block i r (by simp))⟩
theorem Vx {a:World} {base gD B c cap:Nat} {a2 a3:au} {c2 c3:Nat} {d:Dk} {s:Bool} {N:Int} {l:ak} {m:au} {n:Nat}
  (I:base<=c) (v:c<B) (q:B<=a.heap.size) (J:base<=gD)
  (hd:a.heap[gD]? =some (.cells #[.slice (some ⟨c,0,none⟩) d.1.length cap,.slice a2 d.2.1.length c2,.slice a3 d.2.2.length c3] 26 (0,0)))
  (K:aX a base (.slice (some ⟨c,0,none⟩) d.1.length cap) d.1) (L:kG a B (.slice a2 d.2.1.length c2) d.2.1) (M:lQ a B (.slice a3 d.2.2.length c3) d.2.2) (O:aX a B (.slice m l.length n) l) (hl:d.2.2.length<=1000000):
  ∃o p f,(Builtin.append_ #[24,24] 24 #[.slice a3 d.2.2.length c3,.slice (some ⟨a.heap.size,0,none⟩) 1 1]).run Tryz.prog (a.alloc (.cells #[.bool s,.int .i64 N,.slice m l.length n] 151))=.ok (.slice o (d.2.2.length+1) p) f∧a.grownBy f (Value.slice a3 d.2.2.length c3).ownBlock∧
   f.heap[gD]? =some (.cells #[.slice (some ⟨c,0,none⟩) d.1.length cap,.slice a2 d.2.1.length c2,.slice a3 d.2.2.length c3] 26 (0,0))∧
   ∀ws,f.grownBy ws (some gD)->ws.heap[gD]? =some (.cells #[.slice (some ⟨c,0,none⟩) d.1.length cap,.slice a2 d.2.1.length c2,.slice o (d.2.2.length+1) p] 26 (0,0))->Dp ws base gD B (d.1,d.2.1,d.2.2++[(s,N,l)]):=by
 obtain ⟨x,y⟩:=ai (a.alloc (.cells #[.bool s,.int .i64 N,.slice m l.length n] 151));rw [<-y];have b:ah a x:=by rw [y];exact ae
 have Q:∀j u,([Value.bool s,.int .i64 N,.slice m l.length n]:List Value)[j]? =some u->x.cell? ((⟨a.heap.size,0,none⟩:Addr).add j)=some u:=by
  intro j u R;rw [y];have:=World.news_of_block (w:=a.alloc (.cells #[.bool s,.int .i64 N,.slice m l.length n] 151)) (heap_alloc_new a _) j u (by simpa using R)
  simpa using this
 obtain ⟨S,r,A,C,D⟩:=info_parts Tryz.infoAct;obtain ⟨z,T,E,U⟩:=M.a b;obtain ⟨V,f,W,G,k,_⟩:=run_append_own (P:=Tryz.prog) x B 24 24 151 S _ 3 40 Tryz.underlying24 r A C D rfl (by decide) _ _ _ E ⟨a.heap.size,0,none⟩ 1 1 [.bool s,.int .i64 N,.slice m l.length n] rfl Q (by intro u H;simp at H;rcases H with rfl | rfl | rfl<;>rfl) (by unfold maxLen;omega) (by omega) (aC q b.size);have t:=eH _ _ _ _ hd b;have X:f.heap[gD]? =some (.cells #[.slice (some ⟨c,0,none⟩) d.1.length cap,.slice a2 d.2.1.length c2,.slice a3 d.2.2.length c3] 26 (0,0)):=by
  refine (k.block gD (Array.getElem?_eq_some_iff.1 t).1 ?_).trans t;intro e;obtain ⟨cs,h⟩:=vk E gD e.symm;rw [t] at h;cases h
 obtain ⟨o,p,rfl⟩:∃o p,V=.slice o (d.2.2.length+1) p:=by
  rcases G.2 with ⟨_,h⟩ | ⟨g,cap,Y,h,_⟩
  ·exact absurd h (by omega)
  ·exact ⟨_,_,h⟩
 refine ⟨o,p,f,W, ?_,X,fun ws Z F=>Dp.did (w:=a) I v (aC q b.size) J t (K.a b) T E U (L.a b) (O.a b) G k Z F⟩;have:=xB b
 exact ⟨k.os.trans this.os,k.tape.trans this.tape,k.output.trans this.output,aC this.size k.size,fun i r hr=>(k.block i (Nat.lt_of_lt_of_le r this.size) hr).trans (this.block i r (by simp))⟩
end Go.Proofs.YthpammbgcidloaaGreat
