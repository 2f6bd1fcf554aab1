/-
  What code.Read and the document's Read do: each answers the number whose small bytes a slice begins with, and changes nothing.
-/
import Derived.Test.YtmeaiocohalphaaGreatDoorL2d
set_option maxHeartbeats 1000000
set_option maxRecDepth 100000
namespace Go.Proofs.YtmeaiocohalphaaGreatDoor
open Go.RowKit
set_option linter.all false
variable {A B:Int}{l:List Ex}
theorem Qp(h:A<0∨B<A∨4096<B):kH A B l=2∧jN A B l=[]:=by
 have:kH A B l=2:=by unfold kH;rw[if_pos h]
 exact⟨this,by unfold jN;rw[if_neg (by rw[this];decide)]⟩
theorem qsa(h:¬(A<0∨B<A∨4096<B)):kH A B l=dE l:=by unfold kH;rw[if_neg h]
theorem rX(h:kH A B l≠0):jN A B l=[]:=by unfold jN;rw[if_neg h]
theorem qlv{u v:Int->Bool}{a:Int}:∀k:Nat,(∀n,a<=n->n<a+k->u n=v n)->kG u a k=kG v a k
 |0,_=>rfl
 |k+1,h=>by
  unfold kG;rw[qlv k (fun n b c=>h n b (by omega)),h (a+k) (by omega) (by omega)]
theorem qafz(A B:Int)(a:aA)(n c:Nat)(l:List Ex)(w:World)(r:iB w (.slice a n c) l)(H:n=l.length)(s:∀x∈l,jg x):
  Calls Tryz.prog 232 #[.int .i64 A,.int .i64 B,.slice a n c] w fun e w'=>∃v,e=.returned (.tuple #[v,.int .i64 (kH A B l)])∧bA w' w.heap.size v (jN A B l)∧ah w w':=by
 have U:=ag r;have I:=ag H;have HW:=ag s;have V:=ag (qjz a n c l w r H s);clear r H s;by_cases J:A<0
 ·have f:=ag (Qp (B:=B) (l:=l) (.inl J:A<0∨B<A∨4096<B))
  go_enter Tryz.func232,Tryz.ntmps232;go_wp2;go_ret2;exact⟨_,by rw[f.o.1];rfl,by rw[f.o.2];exact bA.nil _ _,aF⟩
 have W:decide (A<0)=false:=by simpa using J
 by_cases O:B<A
 ·have f:=ag (Qp (B:=B) (l:=l) (.inr (.inl O):A<0∨B<A∨4096<B))
  go_enter Tryz.func232,Tryz.ntmps232;go_wp2;go_ret2;exact⟨_,by rw[f.o.1];rfl,by rw[f.o.2];exact bA.nil _ _,aF⟩
 have X:decide (B<A)=false:=by simpa using O
 by_cases P:4096<B
 ·have f:=ag (Qp (A:=A) (l:=l) (.inr (.inr P):A<0∨B<A∨4096<B))
  go_enter Tryz.func232,Tryz.ntmps232;go_wp2;go_ret2;exact⟨_,by rw[f.o.1];rfl,by rw[f.o.2];exact bA.nil _ _,aF⟩
 have Y:decide (4096<B)=false:=by simpa using P
 obtain⟨p,rfl⟩:∃p:Nat,A=p:=⟨A.toNat,by omega⟩;obtain⟨m,Q⟩:∃m:Nat,B=p+m:=⟨(B-p).toNat,by omega⟩;have D:=ag (qsa (A:=(p:Int)) (B:=B) (l:=l) (by omega));have f:=ag Q
 have K:p+m<=4096:=by omega
 clear Q;go_enter Tryz.func232,Tryz.ntmps232;go_wp2_with fail
 refine V.o.mono ?_
 rintro e F⟨rfl,L⟩;by_cases y:dE l=0
 ·have G:=ag y
  rw[y];have M:=Tryz.zeroMk;have Z:=Sw (fun _=>false);have qN:n<=4096:=by have:=(wL G.o).1;have:=I.o;omega
  have qM:=ag (fun x hx=>(sF x).2 ((wL G.o).2 x hx):∀x∈l,eP x=true);have z:=L.size;clear y;go_wp2;go_loopw [30] (fun i wr=>∃k:Nat,k<=n∧i=.int .i64 k∧af (Mk wr F.heap.size (fun j=>ek (l.take k) j))∧ah w wr) (fun i _=>n-(intOf i).toNat)
  case atStart=>exact⟨0,Xd5 _,rfl,ag ((Mk.new F _).same fun j=>by simp[ek]),L.alloc z _⟩
  obtain⟨k,hk,rfl,t,d⟩:=hrel;have wO:=t.o.lt;by_cases aa:k<n
  ·have R:(k:Int)<n:=by omega
   have u:k<l.length:=by have:=I.o;omega
   obtain⟨b,ab,rfl,q0,q1⟩:=(U.o.a d).at k u;go_wp2_with fail
   refine(Wq F.heap.size _ (l[k]) (qM.o _ (Xa3 u)) _ (t.o.a (ae))).mono ?_
   rintro e wc⟨rfl,C,S⟩;have N:=ag (C.same (g:=fun j=>ek (l.take (k+1)) j) fun j=>by rw[qw l k u,JP]);have h:ah w wc:=(d.alloc d.size _).grown S (aG d.size (by simp)) (fun j hj=>by cases hj;exact z);clear C S;go_wp2;go_roundw
   case rel=>exact⟨k+1,by omega,rfl,N,h⟩
   simp only[intOf];omega
  have hd:decide ((k:Int)<n)=false:=aC (by omega);have T:∀j,ek (l.take k) j=ek l j:=fun j=>by rw[Xa1 (by have:=I.o;omega)]
  have N:=ag (t.o.same (g:=fun j=>ek l j) fun j=>T j);clear T;go_wp2_with fail
  refine(qr3 F.heap.size _ p m B wr N.o K f.o).mono ?_
  rintro e wc⟨v,rfl,q,h⟩;have HO:=ag (show bA wc w.heap.size v (jN p B l)by
   have e:jN p B l=kG (fun n:Int=>ek l ((n.toNat:Nat):Int)) p m:=by
    unfold jN;rw[if_pos (by rw[D.o,G.o]),show(B-(p:Int)).toNat=m by have:=f.o;omega];exact qlv m fun n J _=>by rw[show((n.toNat:Nat):Int)=n by omega]
   rw[e];exact q.mono d.size)
  have ji:=d.trans (h.mono d.size);clear q h;go_wp2;go_ret2;exact⟨_,by rw[D.o,G.o];rfl,HO.o,ji⟩
 have HL:=ag (rX (A:=(p:Int)) (B:=B) (l:=l) (by rw[D.o];exact y));generalize hE:dE l=E at *;have ac:(E==0)=false:=Xe2 y;go_wp2;go_ret2;exact⟨_,by rw[D.o];rfl,by rw[HL.o];exact bA.nil _ _,L⟩
theorem KN(A B W:Int)(a:aA)(n c:Nat)(l:List Ex)(w:World)(g:iB w (.slice a n c) l)(p:n=l.length)(h:∀x∈l,jg x):
  Calls Tryz.prog 176 #[.int .i64 A,.int .i64 B,.slice a n c,.int .i64 W] w fun e w'=>∃v,e=.returned (.tuple #[v,.int .i64 (lS A B l W)])∧bA w' w.heap.size v (kg A B l W)∧ah w w':=by
 have q:=ag (qafz A B a n c l w g p h);clear g p h;go_enter Tryz.func176,Tryz.ntmps176;go_wp2_with fail
 refine q.o.mono ?_
 rintro e z⟨v,rfl,b,i⟩;have C:=ag b;obtain⟨D,F,rfl⟩:=b.form;clear b q;by_cases d:kH A B l=0
 ·by_cases j:W<1
  ·have f:=ag (JQ d (.inl j:W<1∨4096<W))
   rw[d];clear d;go_wp2;go_ret2;exact⟨_,by rw[f.o.1];rfl,by rw[f.o.2];exact bA.nil _ _,i⟩
  have r:decide (W<1)=false:=by simpa using j
  by_cases k:4096<W
  ·have f:=ag (JQ d (.inr k:W<1∨4096<W))
   rw[d];clear d;go_wp2;go_ret2;exact⟨_,by rw[f.o.1];rfl,by rw[f.o.2];exact bA.nil _ _,i⟩
  have s:decide (4096<W)=false:=by simpa using k
  obtain⟨t,G,H⟩:=PU d;obtain⟨I,J,K,L⟩:=ZI d;have M:=ag (fun x N=>by have:=t.1 x N;omega:∀x∈jN A B l,0<=x.1∧1<=x.2∧x.1+x.2<=4096);have O:=ag d;rw[d];clear d t G I J K L;go_wp2_with fail
  refine(KL w.heap.size D _ F _ W z C.o i.size rfl H M.o (by omega) (by omega)).mono ?_
  rintro e S⟨v,rfl,b,m⟩;have f:=ag (show lS A B l W=sG (jN A B l) W∧kg A B l W=(fE (jN A B l) W).getD []by
   unfold lS kg;have u:¬kH A B l≠0:=by rw[O.o];decide
   have y:¬(W<1∨4096<W):=by omega
   rw[if_neg u,if_neg u,if_neg y,if_neg y];exact⟨rfl,rfl⟩)
  have P:=ag b;have Q:=i.trans m;clear b m;go_wp2;go_ret2;exact⟨_,by rw[f.o.1];rfl,by rw[f.o.2];exact P.o,Q⟩
 have f:=ag (qi7 (w:=W) d);generalize T:kH A B l=E at *;have R:(E==0)=false:=Xe2 d;go_wp2;go_ret2;exact⟨_,by rw[f.o.1];rfl,by rw[f.o.2];exact bA.nil _ _,i⟩
theorem Fx{P:Program}{o:Oper}{a:Act}{s x:Operand}{t:TypeId}{v y v':Value}{w w':World}(c:o.op=.call {callee:=.builtin .append,args:=#[s,x],argTypes:=#[t,t]})(d:a.eval s=v)(e:a.eval x=y)(b:(Builtin.append_ #[t,t] o.type #[v,y]).run P w=.ok v' w'):
  (execOp a.eval o).run P w=.ok (.value v') w':=by
 simp[execOp,c,resolve,invoke,builtin,d,e,b,Result.andThen]
theorem FF(a b:aA)(n c m d:Nat)(l k:List Ex)(w:World)(v:iB w (.slice a n c) l)(B:iB w (.slice b m d) k)(x:n=l.length)(C:m=k.length):
  Calls Tryz.prog 140 #[.slice a n c,.slice b m d] w fun e w'=>e=.returned (.bool (decide (l=k)))∧ah w w':=by
 have y:n<=maxLen:=x▸v.len_le;unfold maxLen at y;have H:=ag v;have I:=ag B;have z:=ag x;have A:=ag C;clear v B x C;by_cases J:n=m
 ·subst J
  go_enter Tryz.func140,Tryz.ntmps140;go_wp2;go_loopw [5] (fun i wr=>∃j:Nat,j<=n∧i=.int .i64 j∧af (l.take j=k.take j)∧ah w wr) (fun i _=>n-(intOf i).toNat)
  case atStart=>exact⟨0,Xd5 _,rfl,ag (by simp),aF⟩
  obtain⟨j,P,rfl,D,f⟩:=hrel;by_cases K:j<n
  ·have E:(j:Int)<n:=by omega
   have r:j<l.length:=by have:=z.o;omega
   have s:j<k.length:=by have:=A.o;omega
   obtain⟨Q,F,rfl,L,M⟩:=(H.o.a f).at j r;obtain⟨R,S,rfl,T,U⟩:=(I.o.a f).at j s;have N:wrap64 ((j:Int)+1)=(j:Int)+1:=by unfold wrap64;omega
   by_cases q:l[j]=k[j]
   ·have g:=ag (show l.take (j+1)=k.take (j+1)by rw[qw l j r,qw k j s,D.o,q])
    rw[q]at L M;clear q;go_wp2;go_quiet (fail)
    go_wp2;go_roundw
    case rel=>exact⟨j+1,by omega,rfl,g,below_drewN f _⟩
    simp only[intOf];omega
   have g:=ag (show decide (l=k)=false by
    rw[Xd9];rintro rfl;exact q rfl)
   have p:¬((l[j]).1=(k[j]).1∧(l[j]).2=(k[j]).2):=fun h=>q (Prod.ext h.1 h.2)
   clear q;generalize (l[j]).1=z1 at *;generalize (l[j]).2=z2 at *;generalize (k[j]).1=z3 at *;generalize (k[j]).2=z4 at *;by_cases G:z1=z3
   ·subst G
    have t:¬z2=z4:=fun h=>p ⟨rfl,h⟩
    have u:(z2==z4)=false:=Xe2 t;clear p;go_wp2;go_quiet (fail)
    go_wp2;go_ret;exact⟨by rw[g.o];rfl,below_drewN f _⟩
   have u:(z1==z3)=false:=Xe2 G;clear p;go_wp2;go_quiet (fail)
   go_wp2;go_ret;exact⟨by rw[g.o];rfl,below_drewN f _⟩
  have V:decide ((j:Int)<n)=false:=aC (by omega);have g:=ag (show decide (l=k)=true by
   rw[decide_eq_true_iff];have:=D.o
   rwa [Xa1 (by have:=z.o;omega),Xa1 (by have:=A.o;omega)]at this)
  go_wp2;go_ret;exact⟨by rw[g.o];rfl,f⟩
 have g:=ag (show decide (l=k)=false by
  rw[Xd9];rintro rfl;have:=z.o
  have:=A.o
  omega)
 have O:((n:Int)==(m:Int))=false:=by simpa using(by omega:¬(n:Int)=m)
 go_enter Tryz.func140,Tryz.ntmps140;go_wp2;go_ret;exact⟨by rw[g.o];rfl,aF⟩
theorem Nh(n:Nat)(w:World)(i:n<18446744073709551616):
  Calls Tryz.prog 86 #[.int .u64 n] w fun e w'=>∃v,e=.returned v∧w'.ownsRow w.heap.size 5 1 v (sm n).length (bO (sm n))∧ah w w':=by
 have l:=iP i;go_enter Tryz.func86,Tryz.ntmps86;go_wp2
 go_loopw [0,3] (fun x v wr=>∃(m:Nat) (pre:az),m<=n∧x=.int .u64 m∧sm n=pre++sm m∧wr.ownsRow w.heap.size 5 1 v pre.length (bO pre)∧ah w wr)
  (fun x _ _=>(intOf x).toNat)
 case atStart=>exact⟨n,[],Nat.le_refl _,rfl,rfl,Xa7 _ _ _ _,aF⟩
 obtain⟨m,pre,p,rfl,b,c,d⟩:=hrel;have h:af (sm n=pre++sm m):=b;have j:pre.length<=10:=by have:=congrArg List.length b;simp at this;omega
 clear b;by_cases f:128<=m
 ·go_wp2_with (at_builtin;go_must (refine Q7 w wr rfl (.tmp 8) (.tmp 12) 23 rfl w.heap.size 5 Tryz.underlying23 Tryz.infoB _ pre c rfl d aL _ _ (Q4 m) rfl (by omega) ?_);intro v' k a g)
  go_roundw
  case rel=>exact⟨m / 128,pre++[UInt8.ofNat (m%128+128)],by omega,by go_num,by rw[h.o,PQ f];simp,a,g⟩
  simp[intOf]<;>omega
 go_wp2_with (at_builtin;go_must (refine Q7 w wr rfl (.tmp 14) (.tmp 17) 23 rfl w.heap.size 5 Tryz.underlying23 Tryz.infoB _ pre c rfl d aL _ (UInt8.ofNat m) (by first|exact Q3 m|exact G5 m (by omega)) rfl (by omega) ?_);intro v' k a g)
 go_ret;have e:sm n=pre++[UInt8.ofNat m]:=by rw[h.o,Eg (by omega)]
 rw[e];exact⟨_,rfl,a,g⟩
theorem qjh(n:Nat)(w:World)(i:n<18446744073709551616):
  Calls Tryz.prog 133 #[.int .u64 n] w fun e w'=>∃v,e=.returned v∧w'.ownsRow w.heap.size 5 1 v (sm n).length (bO (sm n))∧ah w w':=by
 have l:=iP i;go_enter Tryz.func133,Tryz.ntmps133;go_wp2
 go_loopw [0,3] (fun x v wr=>∃(m:Nat) (pre:az),m<=n∧x=.int .u64 m∧sm n=pre++sm m∧wr.ownsRow w.heap.size 5 1 v pre.length (bO pre)∧ah w wr)
  (fun x _ _=>(intOf x).toNat)
 case atStart=>exact⟨n,[],Nat.le_refl _,rfl,rfl,Xa7 _ _ _ _,aF⟩
 obtain⟨m,pre,p,rfl,b,c,d⟩:=hrel;have h:af (sm n=pre++sm m):=b;have j:pre.length<=10:=by have:=congrArg List.length b;simp at this;omega
 clear b;by_cases f:128<=m
 ·go_wp2_with (at_builtin;go_must (refine Q7 w wr rfl (.tmp 6) (.tmp 11) 23 rfl w.heap.size 5 Tryz.underlying23 Tryz.infoB _ pre c rfl d aL _ (UInt8.ofNat (m%128+128)) (by rw[UInt8.toNat_ofNat'];omega) rfl (by omega) ?_);intro v' k a g)
  go_roundw
  case rel=>exact⟨m / 128,pre++[UInt8.ofNat (m%128+128)],by omega,by go_num,by rw[h.o,PQ f];simp,a,g⟩
  simp[intOf]<;>omega
 go_wp2_with (at_builtin;go_must (refine Q7 w wr rfl (.tmp 15) (.tmp 18) 23 rfl w.heap.size 5 Tryz.underlying23 Tryz.infoB _ pre c rfl d aL _ (UInt8.ofNat m) (by first|exact Q3 m|exact G5 m (by omega)) rfl (by omega) ?_);intro v' k a g)
 go_ret;have e:sm n=pre++[UInt8.ofNat m]:=by rw[h.o,Eg (by omega)]
 rw[e];exact⟨_,rfl,a,g⟩
theorem qpw(a:aA)(c:Nat)(w:World):
  Calls Tryz.prog 183 #[.slice a 0 c] w fun e w'=>e=.returned (nZ none)∧w'=w:=by
 go_enter Tryz.func183,Tryz.ntmps183;go_wp2;go_loop [5,10] (fun n i=>n=.int .u64 0∧i=.int .i64 0) (fun _ _=>0)
 case atStart=>exact⟨rfl,rfl⟩
 obtain⟨rfl,rfl⟩:=hrel;go_wp2;go_ret3;exact⟨rfl,rfl⟩
theorem qwr(b p c:Nat)(l:az)(w:World)(d:∀j,(h:j<l.length)->w.cell? ⟨b,p+j,none⟩=some (.int .u8 (l[j]).toNat)):
  Calls Tryz.prog 183 #[.slice (some ⟨b,p,none⟩) l.length c] w fun e w'=>e=.returned (nZ (rd l))∧w'=w:=by
 go_enter Tryz.func183,Tryz.ntmps183;go_wp2;go_loop [5,10] (fun n i=>∃(k a:Nat),k<=l.length∧k<=9∧n=.int .u64 a∧i=.int .i64 k∧a<128^k∧rd l=iK (l.drop k) k a) (fun _ i=>l.length-(intOf i).toNat)
 case atStart=>exact⟨0,0,Xd5 _,Xd5 _,rfl,rfl,by decide,by simp[rd]⟩
 obtain⟨k,a,v,y,rfl,rfl,f,q⟩:=hrel;have g:af (rd l=iK (l.drop k) k a):=q;have r:af (a<128^k):=f;clear q f;by_cases s:k<l.length
 ·have u:=d k s
  have m:af (l.drop k=l[k]::l.drop (k+1)):=Xc4 s;obtain⟨x,t⟩:=ak (l[k]);rw[<-t]at u m;clear d t;have z:=x.toNat_lt;go_wp2
  ·obtain rfl:k=9:=by omega
   go_ret3;rw[g.o,m.o,ZB (by omega)];exact⟨rfl,rfl⟩
  ·obtain rfl:k=9:=by omega
   go_ret3;rw[g.o,m.o,XM (by omega) (by omega)];exact⟨rfl,rfl⟩
  ·obtain rfl:k=9:=by omega
   go_ret3;rw[g.o,m.o,Q5 (by omega) (by omega) (by omega)];exact⟨by rw[qajv a x.toNat r.o (by omega)];rfl,rfl⟩
  ·go_round
   case rel=>exact⟨k+1,a+x.toNat%128*128^k,by omega,by omega,by rw[Q6 a k x.toNat r.o (by omega)],by go_num,qvy r.o,by rw[g.o,m.o,Jl (by omega) (by omega)]⟩
   simp[intOf]<;>omega
  ·go_ret3
   rw[g.o,m.o,XM (by omega) (by omega)];exact⟨rfl,rfl⟩
  ·obtain rfl:k=0:=by omega
   go_ret3;rw[g.o,m.o,Q5 (by omega) (by omega) (by omega)];obtain rfl:a=0:=by have:=r.o;omega
   exact⟨by simp[nZ, *];rfl,rfl⟩
  go_ret3;rw[g.o,m.o,Q5 (by omega) (by omega) (by omega)];exact⟨by rw[Q6 a k x.toNat r.o (by omega),Nat.mod_eq_of_lt (by omega)];rfl,rfl⟩
 go_wp2;go_ret3;have e:l.drop k=[]:=List.drop_eq_nil_of_le (by omega);rw[g.o,e];exact⟨rfl,rfl⟩
theorem XG(a:aA)(c:Nat)(w:World):
  Calls Tryz.prog 135 #[.slice a 0 c] w fun e w'=>e=.returned (nZ none)∧w'=w:=by
 go_enter Tryz.func135,Tryz.ntmps135;go_wp2;go_loop [5] (fun i=>i=.int .i64 0) (fun _=>0)
 case atStart=>rfl
 obtain rfl:=hrel;go_wp2;go_ret3;exact⟨rfl,rfl⟩
theorem qsb(b A c:Nat)(l:az)(w:World)(hl:l.length<=1000000000000)(g:∀j,(h:j<l.length)->w.cell? ⟨b,A+j,none⟩=some (.int .u8 (l[j]).toNat)):
  Calls Tryz.prog 135 #[.slice (some ⟨b,A,none⟩) l.length c] w fun e w'=>e=.returned (nZ (rd l))∧w'=w:=by
 go_enter Tryz.func135,Tryz.ntmps135;go_wp2;go_loop [5] (fun i=>∃k:Nat,k<=l.length∧k<=10∧i=.int .i64 k∧∀j,(h:j<l.length)->j<k->128<=(l[j]).toNat) (fun i=>l.length-(intOf i).toNat)
 case atStart=>exact⟨0,Xd5 _,Xd5 _,rfl,fun j _ h=>by omega⟩
 obtain⟨k,hk,Q,rfl,B⟩:=hrel;have t:af (∀j,(h:j<l.length)->j<k->128<=(l[j]).toNat):=B;clear B;have K:af (∀j,(h:j<l.length)->w.cell? ⟨b,A+j,none⟩=some (.int .u8 (l[j]).toNat)):=g;clear g;by_cases a:k<l.length
 ·have R:=K.o k a
  obtain⟨x,L⟩:=ak (l[k]);rw[<-L]at R;have m:af (x=l[k]):=L;clear L;have hb:=x.toNat_lt;have S:(k:Int)<l.length:=by omega
  by_cases V:k<10
  ·have T:(k:Int)<10:=by omega
   by_cases M:128<=x.toNat
   ·have C:(128:Int)<=x.toNat:=by omega
    go_wp2;go_round
    case rel=>exact⟨k+1,by omega,by omega,by go_num,fun j h N=>by
     by_cases e:j=k
     ·subst e;rw[<-m.o];exact M
     exact t.o j h (by omega)⟩
    simp[intOf]<;>omega
   have C:(x.toNat:Int)<128:=by omega
   by_cases W:k=9
   ·subst W
    by_cases X:1<x.toNat
    ·have O:(1:Int)<x.toNat:=by omega
     go_wp2;go_ret3;rw[JU l a t.o (by rw[<-m.o];exact X)];exact⟨rfl,rfl⟩
    have O:(x.toNat:Int)<=1:=by omega
    by_cases D:x.toNat=0
    ·go_wp2
     go_ret3;rw[Re l 9 a (by omega) (by omega) t.o (by rw[<-m.o];exact D)];exact⟨rfl,rfl⟩
    have E:af (hvd l 9 0<18446744073709551616):=qk4 l 9 a (by omega) (fun _=>by rw[<-m.o];omega);have F:af (rd l=some (hvd l 9 0,9+1)):=rd_some l 9 a (by omega) t.o (by rw[<-m.o];omega) (fun _=>by rw[<-m.o];omega) (by rw[<-m.o];omega);have P:((x.toNat:Int)==0)=false:=by simpa using D
    go_wp2;go_loop [6,7] (fun n i=>∃j:Nat,j<=9+1∧i=.int .i64 ((j:Int)-1)∧n=.int .u64 (hvd l 9 j:Nat)) (fun _ i=>(intOf i+1).toNat)
    case atStart=>exact⟨9+1,Nat.le_refl _,by go_num,by rw[qt6];rfl⟩
    obtain⟨j,N,rfl,rfl⟩:=hrel;by_cases p:j=0
    ·subst p
     go_wp2;go_ret3;rw[F.o];exact⟨rfl,rfl⟩
    obtain⟨i,rfl⟩:∃i,j=i+1:=⟨j-1,by omega⟩
    have q:=K.o i (by omega);have f:=ZJ l 9 i (by omega) a;have r:=ZK l 9 a i (by omega);have s:=E.o;obtain⟨y,u⟩:=ak (l[i]);rw[<-u]at q f;have G:=y.toNat_lt;obtain⟨d,v⟩:=ak (hvd l 9 (i+1));rw[<-v]at f⊢;have H:af (hvd l 9 i=y.toNat%128+128*d):=f;have I:128*d+y.toNat%128<18446744073709551616:=by omega
    clear f v r s u;have J:(i:Int)<l.length:=by omega
    have z:((i+1:Nat):Int)-1=(i:Int):=by omega
    rw[z];clear z;go_wp2;go_round
    case rel=>exact⟨i,by omega,by go_num,by rw[H.o];go_num⟩
    simp[intOf]<;>omega
   have Y:¬(k:Int)=9:=by omega
   by_cases Z:0<k
   ·have U:(0:Int)<k:=by omega
    by_cases D:x.toNat=0
    ·go_wp2
     go_ret3;rw[Re l k a (by omega) (by omega) t.o (by rw[<-m.o];exact D)];exact⟨rfl,rfl⟩
    have E:af (hvd l k 0<18446744073709551616):=qk4 l k a (by omega) (fun h=>by omega);have F:af (rd l=some (hvd l k 0,k+1)):=rd_some l k a (by omega) t.o (by rw[<-m.o];omega) (fun h=>by omega) (by rw[<-m.o];omega);have P:((x.toNat:Int)==0)=false:=by simpa using D
    go_wp2;go_loop [6,7] (fun n i=>∃j:Nat,j<=k+1∧i=.int .i64 ((j:Int)-1)∧n=.int .u64 (hvd l k j:Nat)) (fun _ i=>(intOf i+1).toNat)
    case atStart=>exact⟨k+1,Nat.le_refl _,by go_num,by rw[qt6];rfl⟩
    obtain⟨j,N,rfl,rfl⟩:=hrel;by_cases p:j=0
    ·subst p
     go_wp2;go_ret3;rw[F.o];exact⟨rfl,rfl⟩
    obtain⟨i,rfl⟩:∃i,j=i+1:=⟨j-1,by omega⟩
    have q:=K.o i (by omega);have f:=ZJ l k i (by omega) a;have r:=ZK l k a i (by omega);have s:=E.o;obtain⟨y,u⟩:=ak (l[i]);rw[<-u]at q f;have G:=y.toNat_lt;obtain⟨d,v⟩:=ak (hvd l k (i+1));rw[<-v]at f⊢;have H:af (hvd l k i=y.toNat%128+128*d):=f;have I:128*d+y.toNat%128<18446744073709551616:=by omega
    clear f v r s u;have J:(i:Int)<l.length:=by omega
    have z:((i+1:Nat):Int)-1=(i:Int):=by omega
    rw[z];clear z;go_wp2;go_round
    case rel=>exact⟨i,by omega,by go_num,by rw[H.o];go_num⟩
    simp[intOf]<;>omega
   obtain rfl:k=0:=by omega
   rw[Nat.add_zero]at R;have aa:¬l=[]:=by intro e;rw[e]at a;simp at a
   have E:af (hvd l 0 0<18446744073709551616):=qk4 l 0 a (by omega) (fun h=>by omega);have F:af (rd l=some (hvd l 0 0,0+1)):=rd_some l 0 a (by omega) t.o (by rw[<-m.o];omega) (fun h=>by omega) (by omega);go_wp2;go_loop [6,7] (fun n i=>∃j:Nat,j<=0+1∧i=.int .i64 ((j:Int)-1)∧n=.int .u64 (hvd l 0 j:Nat)) (fun _ i=>(intOf i+1).toNat)
   case atStart=>exact⟨0+1,Nat.le_refl _,by go_num,by rw[qt6];rfl⟩
   obtain⟨j,N,rfl,rfl⟩:=hrel;by_cases p:j=0
   ·subst p
    go_wp2;go_ret3;rw[F.o];exact⟨rfl,rfl⟩
   obtain⟨i,rfl⟩:∃i,j=i+1:=⟨j-1,by omega⟩
   have q:=K.o i (by omega);have f:=ZJ l 0 i (by omega) a;have r:=ZK l 0 a i (by omega);have s:=E.o;obtain⟨y,u⟩:=ak (l[i]);rw[<-u]at q f;have G:=y.toNat_lt;obtain⟨d,v⟩:=ak (hvd l 0 (i+1));rw[<-v]at f⊢;have H:af (hvd l 0 i=y.toNat%128+128*d):=f;have I:128*d+y.toNat%128<18446744073709551616:=by omega
   clear f v r s u;have J:(i:Int)<l.length:=by omega
   have z:((i+1:Nat):Int)-1=(i:Int):=by omega
   rw[z];clear z;go_wp2;go_round
   case rel=>exact⟨i,by omega,by go_num,by rw[H.o];go_num⟩
   simp[intOf]<;>omega
  obtain rfl:k=10:=by omega
  go_wp2;go_ret3;rw[JS l (by omega) t.o];exact⟨rfl,rfl⟩
 go_wp2;go_ret3;rw[JR l (by omega) (fun j h=>t.o j h (by omega))];exact⟨rfl,rfl⟩
end Go.Proofs.YtmeaiocohalphaaGreatDoor
