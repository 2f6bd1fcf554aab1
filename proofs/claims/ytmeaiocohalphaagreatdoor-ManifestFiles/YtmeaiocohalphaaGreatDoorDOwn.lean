/-
  Disks of one's own behind a pointer: what stays where one row, or the disk's own cells, are written.
-/
import Derived.Test.YtmeaiocohalphaaGreatDoorDMap
set_option maxHeartbeats 1000000
set_option maxRecDepth 100000
namespace Go.Proofs.YtmeaiocohalphaaGreatDoor
open Go.RowKit
open Go.Maps (Keyed)
set_option linter.all false
variable {f j w w' ws:World}{B base c c2 c3 cap g gD n:Nat}{e:TypeId}{s:Bool}{p v v':Value}{xs:List Value}{row:Option Nat}{l:az}{d:Dk}{a2 a3 m:aA}{N:Int}
theorem qje(n:Int)(l:List Pu)(p:Pu):jR n (l++[p])=if n=p.1 then some p.2 else jR n l:=by
 induction l with
 |nil=>
  by_cases e:p.1=n
  ·simp[jR,e]
  have a:¬n=p.1:=fun h=>e h.symm
  simp[jR,e,a]
 |cons q l ih=>
  rw[List.cons_append];show(match jR n (l++[p])with|some b=>some b|none=>if q.1=n then some q.2 else none)=_
  rw[ih];by_cases e:n=p.1
  ·simp[e]
  simp only[e,if_false];rfl
theorem qwj(a:aA)(n c:Nat)(l:List Pu)(w:World)(v:n=l.length)(hl:l.length<=900000)(y:∀p∈l,0<=p.1∧p.1<1000000∧p.2.length=128)(h:ru w (.slice a n c) l):
  Calls Tryz.prog 148 #[.slice a n c] w fun e w'=>∃b,e=.returned (.map (some b))∧Bm w' w.heap.size b n (fun k=>jR k l)∧ah w w':=by
 have F:=ag h;have z:=ag v;have G:=ag y;have H:n<=900000:=by omega
 clear h v hl y;have s:=@run_makeMap Tryz.prog;go_enter Tryz.func148,Tryz.ntmps148;go_wp2;clear s;go_loopw [9] (fun i wr=>∃k:Nat,k<=n∧i=.int .i64 k∧af (Bm wr w.heap.size w.heap.size k (fun x=>jR x (l.take k)))∧ah w wr) (fun i _=>n-(intOf i).toNat)
 case atStart=>exact⟨0,Xd5 _,rfl,Bm.made w,ae⟩
 obtain⟨k,R,rfl,A,f⟩:=hrel;by_cases I:k<n
 ·have j:(k:Int)<n:=by omega
  have g:k<l.length:=by have:=z.o;omega
  obtain⟨b,J,rfl,S,x,m,d,T,B,C⟩:=(F.o.a f).at k g;obtain⟨D,E,t⟩:=G.o _ (Xa3 g);have K:=ag B;have L:=ag (C.trans t);have M:=ag D;have N:=ag E;have O:=ag t;clear B C D E t;go_wp2_with fail
  refine(L8 w.heap.size w.heap.size k (fun x=>jR x (l.take k)) (l[k]).1 x m d (l[k]).2 _ (A.o.a (ae)) (by omega) M.o N.o O.o L.o (K.o.alloc _)).mono ?_
  rintro e P⟨rfl,q,r⟩;have Q:=ag q;have u:ah w P:=(f.alloc f.size _).trans r;clear q r;go_wp2;go_roundw
  case rel=>
   refine⟨k+1,by omega,by go_num,ag ?_,u⟩;have e:(fun x=>jR x (l.take (k+1)))=fun x=>if x=(l[k]).1 then some (l[k]).2 else jR x (l.take k):=by
    funext x
    rw[Xa2 g,qje]
   rw[e];exact Q.o
  simp[intOf]<;>omega
 have j:decide ((k:Int)<n)=false:=aC (by omega);obtain rfl:k=n:=by omega
 go_wp2;go_ret;refine⟨_,rfl, ?_,f⟩;have:=A.o
 rw[Xa1 (by have:=z.o;omega)]at this;exact this
/-! ### blocks of data -/
theorem qf2(data l:az)(n:Nat)(hl:l.length=128)(a:128*n+128<=data.length):blk (splice data (n*128) l) n=l:=by
 unfold blk splice;have e:(data.take (n*128)).length=128*n:=by rw[Xa4];omega
 rw[List.drop_append_of_le_length (by omega),List.drop_of_length_le (by omega),List.nil_append,Xd3 (by omega),Xa1 (by omega)]
theorem qfs(data l:az)(n a:Nat)(hl:l.length=128)(f:128*n+128<=data.length)(d:a≠n):blk (splice data (n*128) l) a=blk data a:=by
 unfold blk splice;apply List.ext_getElem?;intro j;simp only[List.getElem?_take,List.getElem?_drop,List.getElem?_append,Xa4];by_cases b:j<128
 ·simp only[b,if_true]
  have e:min (n*128) data.length=n*128:=by omega
  rw[e];by_cases c:128*a+j<n*128
  ·simp[c]
  rw[if_neg c,if_neg (by omega)]
  congr 1
  omega
 simp[b]
theorem qet(data l:az)(n:Nat)(hl:l.length=128)(a:128*n+128<=data.length):(splice data (n*128) l).length=data.length:=length_splice _ _ _ (by omega)
theorem qaj4{a b:az}(k:Nat)(c:a.length=128*k)(hb:b.length=128*k)(h:∀n,n<k->blk a n=blk b n):a=b:=by
 apply List.ext_getElem?;intro j;by_cases d:j<128*k
 ·have:=congrArg (fun x=>x[j%128]?) (h (j / 128) (by omega))
  simp only[blk,List.getElem?_take,List.getElem?_drop]at this;rw[if_pos (by omega),if_pos (by omega),show 128*(j / 128)+j%128=j by omega]at this;exact this
 rw[List.getElem?_eq_none (by omega),List.getElem?_eq_none (by omega)]
theorem oI(data:az)(p:Pu)(hl:p.2.length=128):oH data p=splice data (p.1.toNat*128) p.2:=by
 unfold oH splice;rw[hl,Nat.mul_comm]
theorem AO(data:az):∀(l:List Pu) (d:az),d.length=data.length->(∀p∈l,0<=p.1∧128*p.1.toNat+128<=data.length∧p.2.length=128)->(nN d l).length=data.length
 |[],d,hd,_=>hd
 |p::l,d,hd,h=>by
  obtain⟨c,e,a⟩:=h p (Xb4 ..);refine AO data l (oH d p) ?_ (fun q b=>h q (Xb1 _ b))
  rw[oI d p a,qet _ _ _ a (by omega),hd]
theorem qrq(data:az)(n:Nat):∀(l:List Pu) (d:az),d.length=data.length->(∀p∈l,0<=p.1∧128*p.1.toNat+128<=data.length∧p.2.length=128)->blk (nN d l) n=(jR n l).getD (blk d n)
 |[],d,hd,_=>rfl
 |p::l,d,hd,h=>by
  obtain⟨k,m,a⟩:=h p (Xb4 ..);have c:(oH d p).length=data.length:=by rw[oI d p a,qet _ _ _ a (by omega),hd]
  have g:=qrq data n l (oH d p) c (fun q i=>h q (Xb1 _ i));have e1:nN d (p::l)=nN (oH d p) l:=rfl;rw[e1,g];have j:jR n (p::l)=(match jR n l with|some b=>some b|none=>if p.1=n then some p.2 else none):=rfl;rw[j];cases e:jR n l with
  |some b=>rfl
  |none=>
   show blk (oH d p) n=_
   rw[oI d p a];by_cases f:p.1=n
   ·rw[if_pos f]
    have:p.1.toNat=n:=by omega
    rw[this];exact qf2 d p.2 n a (by omega)
   rw[if_neg f]
   exact qfs d p.2 p.1.toNat n a (by omega) (by omega)
open Go.Maps (Keyed)
theorem qrr{P:Program}(w:World){t:Array Oper}{rest:List Oper}{o:Oper}{a:Act}{Q:Exit->Act->World->Prop}(B:o.guard=none)(d s:Operand)(x:TypeId)
  (L:o.op=.call {callee:=.builtin .copy,args:=#[d,s],argTypes:=#[x,x]}) (M:P.underlying x=some (.slice 5)) (C:(P.info? 5).map (·.size)=some 1)
  (base g f n p:Nat) (hd:a.eval d=.slice (some ⟨g,f,none⟩) n p) (v:Value) (l:az) (N:a.eval s=v) (D:Rd w v l) (y:l≠[]) (E:l.length<=n)
  (len cap:Nat) (data:az) (z:bG w base (.slice (some ⟨g,0,none⟩) len cap) data) (A:f+l.length<=data.length)
  (h:∀w',w.grownBy w' (some g)->bG w' base (.slice (some ⟨g,0,none⟩) len cap) (splice data f l)->wpList P t Q rest (a.put o.dst (goInt l.length)) w'):
  wpList P t Q (o::rest) a w:=by
 rcases D with⟨e,_⟩|⟨b,of,c,rfl,Y,Z,q⟩
 ·exact absurd e y
 have i:(bO l).length=l.length:=by simp[bO]
 have F:(bO data).length=data.length:=by simp[bO]
 obtain⟨hx,O|⟨g',I,m,e,R,J,S,T,K,U⟩⟩:=z
 ·cases O.1
 cases e;have G:m.toList.take data.length=bO data:=by rw[<-U,Nat.mul_one]
 have V:data.length<=m.size:=by rw[K];omega
 refine wpList_copy_own B d s x x L 5 M C g f n p ⟨b,of,none⟩ l.length c hd N m _ J (bO l) (by rw[i];exact(Xc3 E).symm) ?_ (by rw[i];omega) (JM l) ?_
 ·intro j u W
  obtain⟨H,rfl⟩:=JN l j u W;rw[Addr.add_lit];exact q j H
 rw[i]
 refine h _ ⟨rfl,rfl,rfl,by simp[World.setRow],fun k _ X=>setRow_other w g k _ (fun e=>X (by rw[e]))⟩ ?_
 have r:(splice data f l).length=data.length:=length_splice _ _ _ A;refine⟨by simp[bO],.inr ⟨g,cap,_,by rw[r],R,setRow_heap w g _ _ _ _ J,by rw[r];exact S,T, ?_, ?_⟩⟩
 ·have hz:m.toList.length=cap*1:=by rw[Xd2,K]
  simp[i];omega
 rw[r,qjd,i,Nat.mul_one]
 show((m.toList.take f++(bO l++m.toList.drop (f+l.length))).take data.length)=_
 rw[List.take_append,List.take_append,List.take_take,Xa4,i,Xc3 (by rw[Xd2];omega:f<=m.toList.length),Nat.min_eq_right (by omega:f<=data.length),Xa1 (by omega:(bO l).length<=data.length-f),<-G,List.take_take,Xc3 (by omega:f<=data.length),List.drop_take];rw[Nat.sub_sub]
theorem Fp{a b:World}{r:Nat}(h:w.grownBy a (some g))(k:a.grownBy b (some r))(d:w.heap.size<=r):w.grownBy b (some g):=
 ⟨k.os.trans h.os,k.tape.trans h.tape,k.output.trans h.output,aG h.size k.size,fun i hi c=>(k.block i (Xb8 hi h.size) (fun e=>by cases e;omega)).trans (h.block i hi c)⟩
theorem xn{a:World}(h:w.grownBy a none)(g:Option Nat):w.grownBy a g:=⟨h.os,h.tape,h.output,h.size,fun i hi _=>h.block i hi (by simp)⟩
def Ki:Option Nat->Value
 |some g=>.slice (some ⟨g,0,none⟩) 128 128
 |none=>.slice none 0 0
theorem FD(v:Value)(y:DataW Unit×List MemPlace)(h:uP v=some y):∃c,v=Ki c:=by
 rcases Kg h with⟨rfl,_⟩|⟨g,rfl,_⟩
 ·exact⟨none,rfl⟩
 exact⟨some g,rfl⟩
theorem qaj5(base b n:Nat)(M:Int->Option (az))(baseD f len cap cnt:Nat)(data:az)(w:World)(hm:Bm w base b n M)(m:bG w baseD (.slice (some ⟨f,0,none⟩) len cap) data)(an:f<base)(p:data.length=128*cnt)(T:1<=cnt)(aj:cnt<=1000000)
  (hM:∀k l,M k=some l->0<=k∧k<cnt):
  Calls Tryz.prog 149 #[.map (some b),.slice (some ⟨f,0,none⟩) len cap] w fun e w'=>e=.returned (.tuple #[])∧w.grownBy w' (some f)∧∃a,bG w' baseD (.slice (some ⟨f,0,none⟩) len cap) a∧a.length=data.length∧∀k:Nat,k<cnt->blk a k=(M k).getD (blk data k):=by
 obtain⟨D,G,h1,h2,h3,h4,h5,h6⟩:=hm;have q:len=128*cnt∧len<=cap∧cap<=maxLen:=by
  obtain⟨hx,h'|⟨U,al,ao,e,_,_,e3,e4,_⟩⟩:=m
  ·cases h'.1
  cases e;exact⟨p,e3,e4⟩
 obtain⟨q,ap,V⟩:=q;unfold maxLen at V;have W:=ag h3;have H4:=ag h4;have H5:=ag h5;have HM:=ag hM;have X:=ag m;have HL:=ag p;have HV:=ag q;clear q h3 h4 h5 h6 hM m p;go_enter Tryz.func149,Tryz.ntmps149
 go_wp2_with (first
  |(at_range;refine wpList_range_own _ rfl _ 214 rfl 3 23 Qb Tryz.underlying214 uP b n D rfl h1 ?_;intro w0 K RY aq;go_frame)
  |go_in)
 go_loopw [4] (fun _ wr=>∃(left:Lit->Bool) (k:Nat) (s:az),wr.ranges Tryz.prog 3 uP b w.heap.size n D left k∧af (bG wr baseD (.slice (some ⟨f,0,none⟩) len cap) s∧s.length=data.length∧∀j:Nat,j<cnt->blk s j=if left (.int .i64 j)then blk data j else(M j).getD (blk data j))∧af (w.grownBy wr (some f)))
  (fun _ wr=>wr.rangeLeft b w.heap.size)
 case atStart=>
  refine⟨_,_,data,K,⟨World.ownsRow.kept X.o RY (.inr (by simp[Value.ownBlock])),rfl,fun j F=>?_⟩,xn RY _⟩;cases e:M j with
  |none=>split<;>rfl
  |some l=>
   obtain⟨g,eg,_⟩:=H5.o j l e;rw[if_pos (Maps.has_true_of_atKey (y:=.lit (.int .i64 g)) (fun z=>by rw[W.o,eg]))]
 obtain⟨left,k,s,L,d,N⟩:=hrel
 go_wp2_with (first
  |(at_next;refine wpList_next_ranges _ rfl _ rfl 3 Qb uP (Value.int .i64) Ki (fun ar kl h=>by obtain⟨x,h,_⟩:=Maps.keyOf_int_inv Tryz.underlying3 h;exact⟨x,h⟩) FD b w.heap.size n _ _ _ rfl L ?_ ?_)
  |go_in)
 ·intro T Y
  go_wp2;refine bodyPost_end (v:=.tuple #[]) ?_ rfl ⟨rfl,N.o,s,d.o.1,d.o.2.1,fun j F=>?_⟩
  ·simp[results,Tryz.results149,go_sem]
  rw[d.o.2.2 j F,Y];simp
 intro x c kl yd yp H k1 t O hv r u Z B hs1 aa;obtain⟨x',ex,rfl,_⟩:=Maps.keyOf_int_inv Tryz.underlying3 t;cases ex;obtain⟨g,rfl,C⟩:∃g,c=some g∧G x=some g:=by
  cases eG:G x with
  |none=>
   have a1:=r .nil;have a2:=r (.lit (.bool true));rw[W.o,eG]at a1 a2;rw[<-a1]at a2;cases a2
  |some g=>
   have a1:=r .nil;rw[W.o,eG]at a1;rcases Kg hv with⟨_,e⟩|⟨U,e,e'⟩
   ·have e:yd=.nil:=e
    rw[e]at a1;cases a1
   have e':yd=.lit (.int .i64 U):=e';rw[e']at a1;cases a1;cases c with
   |none=>cases e
   |some g2=>cases e;exact⟨_,rfl,rfl⟩
 obtain⟨l,E,I⟩:∃l,M x=some l∧BP w base g l:=by
  cases e:M x with
  |none=>rw[H4.o x e]at C;cases C
  |some l=>
   obtain⟨U,e1,e2⟩:=H5.o x l e;rw[C]at e1;cases e1;exact⟨l,rfl,e2⟩
 obtain⟨av,aw⟩:=HM.o x l E;obtain⟨i,rfl⟩:∃i:Nat,x=i:=⟨x.toNat,by omega⟩;have Kj:w.grownBy H (some f):=Fp N.o B aL;have P:BP H base g l:=I.kept Kj (by intro e;cases e;exact absurd I.1 (by omega))
 have qz:Rd H (.slice (some ⟨g,0,none⟩) 128 128) l:=by
  refine .inr ⟨g,0,128,by rw[I.2.1],by rw[I.2.1];exact Nat.le_refl _,by unfold maxLen;omega,fun j F=>?_⟩;have:=World.news_of_block (w:=H) P.2.2 j (.int .u8 (l[j]).toNat) (by simp[bO,List.getElem?_eq_getElem F])
  rwa [Addr.add_lit]at this
 have RZ:bG H baseD (.slice (some ⟨f,0,none⟩) len cap) s:=World.ownsRow.kept d.o.1 B (.inr (by
  have am:=(World.ownsRow.lt X.o f rfl).2;simp only[Value.ownBlock];intro e;cases e;omega))
 have ab:=ag qz;have uF:=ag RZ;have ol:=ag Kj;have J:=ag I.2.1;have ac:=ag E;have Q:=ag u;have HE:=ag O;have ax:wrap64 ((i:Int)*128)=((i*128:Nat):Int):=by unfold wrap64;omega
 have ay:i*128+128<=len:=by have:=HV.o;omega
 have aD:¬i*128=cap:=by omega
 have ad:=d.o.2.1;have R:=HL.o;have S:=ag (show 128*i+128<=s.length by omega);clear qz RZ Kj P I E u t O hv r B hs1 ad R;unfold Ki at aa⊢;go_wp2_with (refine qrr H rfl (.tmp 16) (.tmp 17) 23 rfl Tryz.underlying23 Tryz.sizeB baseD f (i*128) (len-i*128) (cap-i*128) rfl _ l rfl ab.o (by intro e;have:=J.o;rw[e]at this;cases this) (by have:=J.o;omega) len cap s uF.o (by have:=J.o;have:=S.o;omega) ?_;intro w2 Fa ai;go_frame)
 have A:=Q.o.kept Fa (fun e=>by cases e;omega) (fun e=>by have:=Option.some.inj e;have:=(World.ownsRow.lt X.o f rfl).2;omega);go_roundw
 case rel=>
  refine⟨_,k1,_,A,⟨ai, ?_,fun j F=>?_⟩,Ah ol.o Fa⟩
  ·rw[qet _ _ _ J.o S.o,d.o.2.1]
  by_cases e:j=i
  ·subst e
   rw[qf2 _ _ _ J.o S.o,ac.o];simp[Lit.sameKey]
  rw[qfs _ _ _ _ J.o S.o e,d.o.2.2 j F]
  have:(Lit.int IntKind.i64 (j:Int)).sameKey (.int .i64 (i:Int))=false:=by simp[Lit.sameKey];omega
  simp[this]
 rw[A.left_eq,L.left_eq];exact Z
theorem R3{s:Nat}(h:w.ownsRow base e s v n xs)(d:w.grownBy w' row)(a:∀k,row=some k->∃cs t b,w.heap[k]? =some (.cells cs t b)∧t≠e):w'.ownsRow base e s v n xs:=by
 refine h.kept d ?_
 rcases h.2 with⟨rfl,_⟩|⟨g,cap,f,rfl,_,i,_⟩
 ·exact .inl rfl
 right
 intro j;obtain⟨cs,t,b,c,l⟩:=a g (by rw[<-j];rfl);rw[i]at c;cases c;exact l rfl
theorem bG.keptT(h:bG w base v l)(b:w.grownBy w' row)(a:∀k,row=some k->∃cs t c,w.heap[k]? =some (.cells cs t c)∧t≠5):bG w' base v l:=R3 h b a
theorem lM.keptT{l:List Pu}(h:lM w base v l)(g:w.grownBy w' row)(d:∀k,row=some k->∃cs t e,w.heap[k]? =some (.cells cs t e)∧t≠5∧t≠133):lM w' base v l:=by
 obtain⟨z,i,j,m⟩:=h;exact⟨z,i,R3 j g (fun k f=>by obtain⟨cs,t,e,a,b,c⟩:=d k f;exact⟨cs,t,e,a,c⟩),fun p n=>(m p n).keptT g (fun k f=>by obtain⟨cs,t,e,a,b,c⟩:=d k f;exact⟨cs,t,e,a,b⟩)⟩
theorem mP.keptT{l:List Ac}(h:mP w base v l)(g:w.grownBy w' row)(d:∀k,row=some k->∃cs t e,w.heap[k]? =some (.cells cs t e)∧t≠5∧t≠206):mP w' base v l:=by
 obtain⟨z,i,j,m⟩:=h;exact⟨z,i,R3 j g (fun k f=>by obtain⟨cs,t,e,a,b,c⟩:=d k f;exact⟨cs,t,e,a,c⟩),fun p n=>(m p n).keptT g (fun k f=>by obtain⟨cs,t,e,a,b,c⟩:=d k f;exact⟨cs,t,e,a,b⟩)⟩
theorem zn{s:Nat}(h:w.ownsRow base e s v n xs)(k:Nat)(a:v.ownBlock=some k):∃cs,w.heap[k]? =some (.cells cs e (0,0)):=by
 rcases h.2 with⟨rfl,_⟩|⟨g,cap,b,rfl,_,c,_⟩
 ·cases a
 cases a;exact⟨_,c⟩
def Dp (w:World) (base gD B:Nat) (d:Dk):Prop:=∃g0 cap a2 c2 a3 c3,
 w.heap[gD]? =some (.cells #[.slice (some ⟨g0,0,none⟩) d.1.length cap,.slice a2 d.2.1.length c2,.slice a3 d.2.2.length c3] 27 (0,0))∧base<=g0∧g0<B∧B<=w.heap.size∧base<=gD∧
 bG w base (.slice (some ⟨g0,0,none⟩) d.1.length cap) d.1∧lM w B (.slice a2 d.2.1.length c2) d.2.1∧mP w B (.slice a3 d.2.2.length c3) d.2.2
theorem Dp.a(h:Dp w base gD B d)(hb:ah w w'):Dp w' base gD B d:=by
 obtain⟨a,cap,a2,c2,a3,c3,b,c,e,f,g,i,j,k⟩:=h;exact⟨a,cap,a2,c2,a3,c3,gI _ _ _ _ b hb,c,e,aG f hb.size,g,i.a hb,j.a hb,k.a hb⟩
theorem yc:(133≠5∧206≠5∧27≠5)∧(133≠206∧27≠133∧27≠206):=by decide
theorem Dp.waited{w:World}{i:Nat}
  (I:base<=i) (s:i<B) (u:B<=f.heap.size) (J:base<=gD)
  (hd:f.heap[gD]? =some (.cells #[.slice (some ⟨i,0,none⟩) d.1.length cap,.slice a2 d.2.1.length c2,.slice a3 d.2.2.length c3] 27 (0,0)))
  (K:bG f base (.slice (some ⟨i,0,none⟩) d.1.length cap) d.1) {z:List (Pu×Value)} (L:z.map (·.1)=d.2.1) (M:f.ownsRow B 133 2 (.slice a2 d.2.1.length c2) d.2.1.length (Ai z)) (v:∀p∈z,bG f B p.2 p.1.2) (O:mP f B (.slice a3 d.2.2.length c3) d.2.2)
  (P:bG f B p l) (m:j.ownsRow B 133 2 v' (d.2.1.length+1) (Ai z++[.int .i64 N,p])) (n:f.grownBy j (Value.slice a2 d.2.1.length c2).ownBlock) (o:j.grownBy ws (some gD))
  (x:ws.heap[gD]? =some (.cells #[.slice (some ⟨i,0,none⟩) d.1.length cap,v',.slice a3 d.2.2.length c3] 27 (0,0))):
  Dp ws base gD B (d.1,d.2.1++[(N,l)],d.2.2):=by
 obtain⟨⟨y,X,A⟩,Q,R,S⟩:=yc;have r:∀k,(Value.slice a2 d.2.1.length c2).ownBlock=some k->∃cs a,f.heap[k]? =some (.cells cs 133 a):=fun k c=>by
  obtain⟨cs,h⟩:=zn M k c;exact⟨cs,_,h⟩
 have T:j.heap[gD]? =some (.cells #[.slice (some ⟨i,0,none⟩) d.1.length cap,.slice a2 d.2.1.length c2,.slice a3 d.2.2.length c3] 27 (0,0)):=by
  refine(n.block gD (Xd6.1 hd).1 ?_).trans hd;intro e;obtain⟨cs,a,h⟩:=r gD e.symm;rw[hd]at h;cases h
 have g:∀k,some gD=some k->∃cs t a,j.heap[k]? =some (.cells cs t a)∧t=27:=fun k c=>by cases c;exact⟨_,_,_,T,rfl⟩
 have U:bG ws base (.slice (some ⟨i,0,none⟩) d.1.length cap) d.1:=(K.keptT n (fun k c=>by obtain⟨cs,a,h⟩:=r k c;exact⟨cs,_,a,h,y⟩)).keptT o (fun k c=>by obtain⟨cs,t,a,h,rfl⟩:=g k c;exact⟨cs,_,a,h,A⟩);have V:mP ws B (.slice a3 d.2.2.length c3) d.2.2:=(O.keptT n (fun k c=>by obtain⟨cs,a,h⟩:=r k c;exact⟨cs,_,a,h,y,Q⟩)).keptT o (fun k c=>by obtain⟨cs,t,a,h,rfl⟩:=g k c;exact⟨cs,_,a,h,A,S⟩);have G:∀{b q l},bG f b q l->bG ws b q l:=fun h=>(h.keptT n (fun k c=>by obtain⟨cs,a,h⟩:=r k c;exact⟨cs,_,a,h,y⟩)).keptT o (fun k c=>by obtain⟨cs,t,a,h,rfl⟩:=g k c;exact⟨cs,_,a,h,A⟩)
 have C:=R3 m o (fun k c=>by obtain⟨cs,t,a,h,rfl⟩:=g k c;exact⟨cs,_,a,h,R⟩);have D:(d.2.1++[(N,l)]).length=d.2.1.length+1:=by simp
 have H:lM ws B v' (d.2.1++[(N,l)]):=by
  refine⟨z++[((N,l),p)],by simp[L],by rw[D,qhn];exact C,fun q W=>?_⟩;rcases Xa5.1 W with h|h
  ·exact G (v q h)
  rw[Xb3.1 h];exact G P
 obtain⟨E,F,rfl⟩:=H.rd.form;exact⟨i,cap,E,F,a3,c3,x,I,s,aG u (aG n.size o.size),J,U,H,V⟩
theorem Dp.did{w:World}
  (J:base<=g) (r:g<B) (u:B<=f.heap.size) (K:base<=gD)
  (hd:f.heap[gD]? =some (.cells #[.slice (some ⟨g,0,none⟩) d.1.length cap,.slice a2 d.2.1.length c2,.slice a3 d.2.2.length c3] 27 (0,0)))
  (L:bG f base (.slice (some ⟨g,0,none⟩) d.1.length cap) d.1) {z:List (Ac×Value)} (M:z.map (·.1)=d.2.2) (O:f.ownsRow B 206 3 (.slice a3 d.2.2.length c3) d.2.2.length (xH z)) (v:∀p∈z,bG f B p.2 p.1.2.2) (P:lM f B (.slice a2 d.2.1.length c2) d.2.1)
  (Q:bG f B p l) (m:j.ownsRow B 206 3 v' (d.2.2.length+1) (xH z++[.bool s,.int .i64 N,p])) (n:f.grownBy j (Value.slice a3 d.2.2.length c3).ownBlock) (o:j.grownBy ws (some gD))
  (x:ws.heap[gD]? =some (.cells #[.slice (some ⟨g,0,none⟩) d.1.length cap,.slice a2 d.2.1.length c2,v'] 27 (0,0))):
  Dp ws base gD B (d.1,d.2.1,d.2.2++[(s,N,l)]):=by
 obtain⟨⟨Y,G,H⟩,R,S,T⟩:=yc;have y:∀k,(Value.slice a3 d.2.2.length c3).ownBlock=some k->∃cs a,f.heap[k]? =some (.cells cs 206 a):=fun k c=>by
  obtain⟨cs,h⟩:=zn O k c;exact⟨cs,_,h⟩
 have U:j.heap[gD]? =some (.cells #[.slice (some ⟨g,0,none⟩) d.1.length cap,.slice a2 d.2.1.length c2,.slice a3 d.2.2.length c3] 27 (0,0)):=by
  refine(n.block gD (Xd6.1 hd).1 ?_).trans hd;intro e;obtain⟨cs,a,h⟩:=y gD e.symm;rw[hd]at h;cases h
 have i:∀k,some gD=some k->∃cs t a,j.heap[k]? =some (.cells cs t a)∧t=27:=fun k c=>by cases c;exact⟨_,_,_,U,rfl⟩
 have A:∀{b q l},bG f b q l->bG ws b q l:=fun h=>(h.keptT n (fun k c=>by obtain⟨cs,a,h⟩:=y k c;exact⟨cs,_,a,h,G⟩)).keptT o (fun k c=>by obtain⟨cs,t,a,h,rfl⟩:=i k c;exact⟨cs,_,a,h,H⟩)
 have V:=A L;have W:lM ws B (.slice a2 d.2.1.length c2) d.2.1:=(P.keptT n (fun k c=>by obtain⟨cs,a,h⟩:=y k c;exact⟨cs,_,a,h,G,Ne.symm R⟩)).keptT o (fun k c=>by obtain⟨cs,t,a,h,rfl⟩:=i k c;exact⟨cs,_,a,h,H,S⟩);have C:=R3 m o (fun k c=>by obtain⟨cs,t,a,h,rfl⟩:=i k c;exact⟨cs,_,a,h,T⟩);have D:(d.2.2++[(s,N,l)]).length=d.2.2.length+1:=by simp
 have I:mP ws B v' (d.2.2++[(s,N,l)]):=by
  refine⟨z++[((s,N,l),p)],by simp[M],by rw[D,RS];exact C,fun q X=>?_⟩;rcases Xa5.1 X with h|h
  ·exact A (v q h)
  rw[Xb3.1 h];exact A Q
 obtain⟨E,F,rfl⟩:=I.rd.form;exact⟨g,cap,a2,c2,E,F,x,J,r,aG u (aG n.size o.size),K,V,W,I⟩
theorem qlo{a:World}
  (G:base<=c) (s:c<B) (q:B<=a.heap.size) (H:base<=gD)
  (hd:a.heap[gD]? =some (.cells #[.slice (some ⟨c,0,none⟩) d.1.length cap,.slice a2 d.2.1.length c2,.slice a3 d.2.2.length c3] 27 (0,0)))
  (I:bG a base (.slice (some ⟨c,0,none⟩) d.1.length cap) d.1) (J:lM a B (.slice a2 d.2.1.length c2) d.2.1) (K:mP a B (.slice a3 d.2.2.length c3) d.2.2) (L:bG a B (.slice m l.length n) l) (hl:d.2.1.length<=1000000):
  ∃o p f,(Builtin.append_ #[24,24] 24 #[.slice a2 d.2.1.length c2,.slice (some ⟨a.heap.size,0,none⟩) 1 1]).run Tryz.prog (a.alloc (.cells #[.int .i64 N,.slice m l.length n] 133))=.ok (.slice o (d.2.1.length+1) p) f∧a.grownBy f (Value.slice a2 d.2.1.length c2).ownBlock∧
   f.heap[gD]? =some (.cells #[.slice (some ⟨c,0,none⟩) d.1.length cap,.slice a2 d.2.1.length c2,.slice a3 d.2.2.length c3] 27 (0,0))∧
   ∀ws,f.grownBy ws (some gD)->ws.heap[gD]? =some (.cells #[.slice (some ⟨c,0,none⟩) d.1.length cap,.slice o (d.2.1.length+1) p,.slice a3 d.2.2.length c3] 27 (0,0))->Dp ws base gD B (d.1,d.2.1++[(N,l)],d.2.2):=by
 obtain⟨t,v⟩:=ak (a.alloc (.cells #[.int .i64 N,.slice m l.length n] 133));rw[<-v];have b:ah a t:=by rw[v];exact ae
 have M:∀j u,([Value.int .i64 N,.slice m l.length n]:List Value)[j]? =some u->t.cell? ((⟨a.heap.size,0,none⟩:Addr).add j)=some u:=by
  intro j u O;rw[v];have:=World.news_of_block (w:=a.alloc (.cells #[.int .i64 N,.slice m l.length n] 133)) (heap_alloc_new a _) j u (by simpa using O)
  simpa using this
 obtain⟨Q,hi,x,y,A⟩:=info_parts Tryz.infoPut;obtain⟨z,R,C,S⟩:=J.a b;obtain⟨T,f,U,E,k,_⟩:=run_append_own (P:=Tryz.prog) t B 24 24 133 Q _ 2 32 Tryz.underlying24 hi x y A rfl (by decide) _ _ _ C ⟨a.heap.size,0,none⟩ 1 1 [.int .i64 N,.slice m l.length n] rfl M (by intro u F;simp at F;rcases F with rfl|rfl<;>rfl) (by unfold maxLen;omega) (by omega) (aG q b.size);have r:=gI _ _ _ _ hd b;have V:f.heap[gD]? =some (.cells #[.slice (some ⟨c,0,none⟩) d.1.length cap,.slice a2 d.2.1.length c2,.slice a3 d.2.2.length c3] 27 (0,0)):=by
  refine(k.block gD (Xd6.1 r).1 ?_).trans r;intro e;obtain⟨cs,h⟩:=zn C gD e.symm;rw[r]at h;cases h
 obtain⟨o,p,rfl⟩:∃o p,T=.slice o (d.2.1.length+1) p:=by
  rcases E.2 with⟨_,h⟩|⟨g,cap,W,h,_⟩
  ·exact absurd h (by omega)
  exact⟨_,_,h⟩
 refine⟨o,p,f,U, ?_,V,fun ws X D=>Dp.waited (w:=a) G s (aG q b.size) H r (I.a b) R C S (K.a b) (L.a b) E k X D⟩;have:=Aj b
 exact⟨k.os.trans this.os,k.tape.trans this.tape,k.output.trans this.output,aG this.size k.size,fun i hi Y=>(k.block i (Xb8 hi this.size) Y).trans (this.block i hi (by simp))⟩
theorem tN{a:World}
  (H:base<=c) (t:c<B) (q:B<=a.heap.size) (I:base<=gD)
  (hd:a.heap[gD]? =some (.cells #[.slice (some ⟨c,0,none⟩) d.1.length cap,.slice a2 d.2.1.length c2,.slice a3 d.2.2.length c3] 27 (0,0)))
  (J:bG a base (.slice (some ⟨c,0,none⟩) d.1.length cap) d.1) (K:lM a B (.slice a2 d.2.1.length c2) d.2.1) (L:mP a B (.slice a3 d.2.2.length c3) d.2.2) (M:bG a B (.slice m l.length n) l) (hl:d.2.2.length<=1000000):
  ∃o p f,(Builtin.append_ #[25,25] 25 #[.slice a3 d.2.2.length c3,.slice (some ⟨a.heap.size,0,none⟩) 1 1]).run Tryz.prog (a.alloc (.cells #[.bool s,.int .i64 N,.slice m l.length n] 206))=.ok (.slice o (d.2.2.length+1) p) f∧a.grownBy f (Value.slice a3 d.2.2.length c3).ownBlock∧
   f.heap[gD]? =some (.cells #[.slice (some ⟨c,0,none⟩) d.1.length cap,.slice a2 d.2.1.length c2,.slice a3 d.2.2.length c3] 27 (0,0))∧
   ∀ws,f.grownBy ws (some gD)->ws.heap[gD]? =some (.cells #[.slice (some ⟨c,0,none⟩) d.1.length cap,.slice a2 d.2.1.length c2,.slice o (d.2.2.length+1) p] 27 (0,0))->Dp ws base gD B (d.1,d.2.1,d.2.2++[(s,N,l)]):=by
 obtain⟨v,x⟩:=ak (a.alloc (.cells #[.bool s,.int .i64 N,.slice m l.length n] 206));rw[<-x];have b:ah a v:=by rw[x];exact ae
 have O:∀j u,([Value.bool s,.int .i64 N,.slice m l.length n]:List Value)[j]? =some u->v.cell? ((⟨a.heap.size,0,none⟩:Addr).add j)=some u:=by
  intro j u Q;rw[x];have:=World.news_of_block (w:=a.alloc (.cells #[.bool s,.int .i64 N,.slice m l.length n] 206)) (heap_alloc_new a _) j u (by simpa using Q)
  simpa using this
 obtain⟨R,hi,y,A,C⟩:=info_parts Tryz.infoAct;obtain⟨z,S,D,T⟩:=L.a b;obtain⟨U,f,V,F,k,_⟩:=run_append_own (P:=Tryz.prog) v B 25 25 206 R _ 3 40 Tryz.underlying25 hi y A C rfl (by decide) _ _ _ D ⟨a.heap.size,0,none⟩ 1 1 [.bool s,.int .i64 N,.slice m l.length n] rfl O (by intro u G;simp at G;rcases G with rfl|rfl|rfl<;>rfl) (by unfold maxLen;omega) (by omega) (aG q b.size);have r:=gI _ _ _ _ hd b;have W:f.heap[gD]? =some (.cells #[.slice (some ⟨c,0,none⟩) d.1.length cap,.slice a2 d.2.1.length c2,.slice a3 d.2.2.length c3] 27 (0,0)):=by
  refine(k.block gD (Xd6.1 r).1 ?_).trans r;intro e;obtain⟨cs,h⟩:=zn D gD e.symm;rw[r]at h;cases h
 obtain⟨o,p,rfl⟩:∃o p,U=.slice o (d.2.2.length+1) p:=by
  rcases F.2 with⟨_,h⟩|⟨g,cap,X,h,_⟩
  ·exact absurd h (by omega)
  exact⟨_,_,h⟩
 refine⟨o,p,f,V, ?_,W,fun ws Y E=>Dp.did (w:=a) H t (aG q b.size) I r (J.a b) S D T (K.a b) (M.a b) F k Y E⟩;have:=Aj b
 exact⟨k.os.trans this.os,k.tape.trans this.tape,k.output.trans this.output,aG this.size k.size,fun i hi Z=>(k.block i (Xb8 hi this.size) Z).trans (this.block i hi (by simp))⟩
end Go.Proofs.YtmeaiocohalphaaGreatDoor
