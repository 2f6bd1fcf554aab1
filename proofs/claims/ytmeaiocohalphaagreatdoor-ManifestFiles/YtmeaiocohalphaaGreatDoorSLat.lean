/-
  What super's lasting and Latest do.
-/
import Derived.Test.YtmeaiocohalphaaGreatDoorRTwin2
set_option maxHeartbeats 1000000
set_option maxRecDepth 100000
namespace Go.Proofs.YtmeaiocohalphaaGreatDoor
open Go.RowKit
set_option linter.all false
variable {d e:Dk}{u v:Value}{w:World}{base c g k n o:Nat}{l:az}
theorem qabn(w:World)(hv:kN w v d)(hu:kN w u e):
  Calls Tryz.prog 138 #[v,u] w fun r w'=>r=.returned (.bool (decide (d.1=e.1∧d.2.1=e.2.1)))∧ah w w':=by
 obtain⟨a1,I,a2,j,a3,l,rfl,h1,J,h3⟩:=hv.form;obtain⟨c1,K,c2,L,c3,M,rfl,k1,k2,k3⟩:=hu.form;have wO:d.2.1.length<=maxLen:=J.len_le;have H1:=ag h1;have H2:=ag J;have K1:=ag k1;have K2:=ag k2;clear h1 J h3 k1 k2 k3 hv hu;unfold maxLen at wO;generalize e1:d.1.length=n1 at *;generalize e2:d.2.1.length=n2 at *;generalize e3:d.2.2.length=n3 at *;generalize g1:e.1.length=m1 at *;generalize g2:e.2.1.length=m2 at *;generalize g3:e.2.2.length=m3 at *;have O:=ag e2;have Q:=ag g2;clear e1 e2 e3 g1 g2 g3;obtain⟨s,F⟩:=au ((w.alloc (.cells #[.slice a1 n1 I,.slice a2 n2 j,.slice a3 n3 l] 27)).alloc (.cells #[.slice c1 m1 K,.slice c2 m2 L,.slice c3 m3 M] 27));have b:ah w s:=by rw[<-F];exact(ae).alloc (by simp) _
 have t:s.heap[w.heap.size]? =some (.cells #[.slice a1 n1 I,.slice a2 n2 j,.slice a3 n3 l] 27 (0,0)):=by
  rw[<-F,heap_alloc_old _ _ (by simp)];exact heap_alloc_new _ _
 have x:s.heap[w.heap.size+1]? =some (.cells #[.slice c1 m1 K,.slice c2 m2 L,.slice c3 m3 M] 27 (0,0)):=by rw[<-F];exact uN _ _ _
 obtain⟨R,S,T,_⟩:=cells3 t;obtain⟨U,V,W,_⟩:=cells3 x;have X:=sD (P:=Tryz.prog) 23 5 9 Tryz.underlying23 Tryz.underlying5 Tryz.underlying9 (H1.o.a b);have y:=sD (P:=Tryz.prog) 23 5 9 Tryz.underlying23 Tryz.underlying5 Tryz.underlying9 (K1.o.a b);by_cases c:d.1=e.1
 case neg=>
  have z:=ag (show decide (d.1=e.1∧d.2.1=e.2.1)=false by simp[c]);have hq:((bs d.1).toList !=(bs e.1).toList)=true:=by
   have:=Qf d.1 e.1
   rw[Xd7 c]at this;simp only[bne,this];rfl
  have A:((bs d.1).toList==(bs e.1).toList)=false:=by
   have:=Qf d.1 e.1
   rw[Xd7 c]at this;exact this
  have aj:¬(bs d.1).toList=(bs e.1).toList:=by
   intro h;rw[h]at A;simp at A
  clear c;go_enter Tryz.func138,Tryz.ntmps138;go_wp2;go_ret;exact⟨by first|rfl|(rw[z.o];rfl),b⟩
 have z:=ag (show decide (d.1=e.1∧d.2.1=e.2.1)=decide (d.2.1=e.2.1)by simp[c]);rw[<-c]at y;clear c;by_cases hn:n2=m2
 case neg=>
  have al:((n2:Int) !=m2)=true:=by simpa using(by omega:¬(n2:Int)=m2)
  have m:=ag (show decide (d.2.1=e.2.1)=false by
   simp only[Xd9];intro h;apply hn;rw[<-O.o,<-Q.o,h])
  go_enter Tryz.func138,Tryz.ntmps138;go_wp2;go_ret;exact⟨by first|rfl|(rw[z.o,m.o];rfl),b⟩
 subst hn;go_enter Tryz.func138,Tryz.ntmps138;go_wp2;clear F X y R S T U V W;go_loopw [5] (fun i wr=>∃k:Nat,k<=n2∧i=.int .i64 k∧af (d.2.1.take k=e.2.1.take k)∧ah s wr) (fun i _=>n2-(intOf i).toNat)
 case atStart=>exact⟨0,Xd5 _,rfl,rfl,aF⟩
 obtain⟨k,hk,rfl,B,a⟩:=hrel;have Y:ah w wr:=b.trans (a.mono b.size);obtain⟨R,S,T,_⟩:=cells3 (gI _ _ _ _ t a);obtain⟨U,V,W,_⟩:=cells3 (gI _ _ _ _ x a);by_cases am:k<n2
 ·have C:(k:Int)<n2:=by omega
  have D:k<d.2.1.length:=by have:=O.o;omega
  have uU:k<e.2.1.length:=by have:=Q.o;omega
  obtain⟨Z,o1,rfl,G,x9,m9,d9,q1,q2,q3⟩:=(H2.o.a b).at k D;obtain⟨b2,o2,rfl,H,y9,n9,f9,r1,r2,r3⟩:=(K2.o.a b).at k uU;clear q3 r3;have HQ:=ag q2;have HR:=ag r2;obtain⟨⟨N,L1⟩,hp⟩:∃p:Pu,d.2.1[k]=p:=⟨_,rfl⟩;obtain⟨⟨N2,L2⟩,n⟩:∃p:Pu,e.2.1[k]=p:=⟨_,rfl⟩;have HP:=ag hp;have KE:=ag n;rw[hp]at G HQ;rw[n]at H HR;dsimp only at G H HQ HR;have pU:=aV _ _ _ _ G a;have aa:=aV _ _ _ _ q1 a;have ab:=aV _ _ _ _ H a;have ac:=aV _ _ _ _ r1 a;clear hp n q2 r2 G q1 H r1;obtain⟨r,er⟩:∃r:Bool,decide (((N,L1):Pu)=(N2,L2))=r:=⟨_,rfl⟩;have q:=ag er;clear er;have hK:aN (fun f=>(f.cell? ⟨w.heap.size,0,none⟩=some (.slice a1 n1 I)∧f.cell? ⟨w.heap.size,1,none⟩=some (.slice (some ⟨Z,o1,none⟩) n2 j)∧f.cell? ⟨w.heap.size,2,none⟩=some (.slice a3 n3 l))∧(f.cell? ⟨w.heap.size+1,0,none⟩=some (.slice c1 m1 K)∧f.cell? ⟨w.heap.size+1,1,none⟩=some (.slice (some ⟨b2,o2,none⟩) n2 L)∧f.cell? ⟨w.heap.size+1,2,none⟩=some (.slice c3 m3 M))∧(f.cell? ⟨Z,o1+k*2,none⟩=some (.int .i64 N)∧f.cell? ⟨Z,o1+k*2+1,none⟩=some (.slice x9 m9 d9))∧(f.cell? ⟨b2,o2+k*2,none⟩=some (.int .i64 N2)∧f.cell? ⟨b2,o2+k*2+1,none⟩=some (.slice y9 n9 f9))∧ah s f):=((aV _ _).and ((aV _ _).and (aV _ _))).and (((aV _ _).and ((aV _ _).and (aV _ _))).and (((aV _ _).and (aV _ _)).and (((aV _ _).and (aV _ _)).and (pQ _))));go_wp2
  refine iH hK (by kernel_rfl) ⟨⟨R,S,T⟩,⟨U,V,W⟩,⟨pU,aa⟩,⟨ab,ac⟩,a⟩ ?_
  intro g;refine rP [0,1,2,3,4,5,6,7,8,9] 2 ?jS ?dP g ?jT
  case dP=>
   iterate 10 (apply Yl.cons rfl (by kernel_rfl);focus (rintro f⟨⟨x1,x2,x3⟩,⟨y1,y2,y3⟩,⟨z1,z2⟩,⟨v1,v2⟩,ad⟩;go_simp<;>rfl);try simp only[aB])
   exact Yl.nil
  refine rV hK 10 (.bool r) rfl g (qnz q.o (qj0 (N,L1) (N2,L2) x9 y9 m9 d9 n9 f9 _ (HQ.o.a g.2.2.2.2) (HR.o.a g.2.2.2.2))) ?_
  clear g;intro an g;try simp only[aB]
  refine rT 11 ?R6 rfl ?BS g ?R7
  case BS=>(rintro f⟨⟨x1,x2,x3⟩,⟨y1,y2,y3⟩,⟨z1,z2⟩,⟨v1,v2⟩,ad⟩;go_simp<;>rfl)
  try simp only[aB]
  refine rD ?_
  obtain⟨_,_,_,_,E⟩:=g;have ai:=b.trans (E.mono b.size);cases r
  ·have m:=ag (show decide (d.2.1=e.2.1)=false by
    simp only[Xd9];intro h;have h':d.2.1[k]=e.2.1[k]:=by simp only[h]
    rw[HP.o,KE.o]at h';have:=q.o
    rw[Xd8 h']at this;cases this)
   go_wp2;go_ret;exact⟨by first|rfl|(rw[z.o,m.o];rfl),ai⟩
  have m:=ag (show d.2.1[k]=e.2.1[k]by rw[HP.o,KE.o];exact of_decide_eq_true q.o);go_wp2;go_roundw
  case rel=>exact⟨k+1,by omega,by go_num,by show _=_;rw[Xa2 D,Xa2 uU,B.o,m.o],E⟩
  simp[intOf]<;>omega
 have C:decide ((k:Int)<n2)=false:=aC (by omega);have m:=ag (show decide (d.2.1=e.2.1)=true by
  have:=B.o
  rw[Xa1 (by have:=O.o;omega),Xa1 (by have:=Q.o;omega)]at this;simpa using this)
 go_wp2;go_ret;exact⟨by first|rfl|(rw[z.o,m.o];rfl),Y⟩
theorem qabo(w:World)(hv:kN w v d)(k:kN w u e):
  Calls Tryz.prog 67 #[v,u] w fun r w'=>r=.returned (.bool (decide (d=e)))∧ah w w':=by
 obtain⟨a1,q,a2,g,a3,f,rfl,H,I,s⟩:=hv.form;obtain⟨c1,t,c2,x,c3,l,rfl,J,K,y⟩:=k.form;have L:=ag hv;have M:=ag k;have N:=ag s;have O:=ag y;clear H I s J K y hv k;have P:∀o z,ah w ((w.alloc o).alloc z):=fun o z=>(ae).alloc (by simp) _
 have A:=ag (show decide (d=e)=(decide (d.1=e.1∧d.2.1=e.2.1) && decide (d.2.2=e.2.2))by
  obtain⟨d1,d2,Q⟩:=d;obtain⟨e1,R,S⟩:=e;by_cases T:d1=e1<;>by_cases U:d2=R<;>by_cases V:Q=S<;>simp[T,U,V])
 obtain⟨m,j⟩:=au ((w.alloc (.cells #[.slice a1 d.1.length q,.slice a2 d.2.1.length g,.slice a3 d.2.2.length f] 27)).alloc (.cells #[.slice c1 e.1.length t,.slice c2 e.2.1.length x,.slice c3 e.2.2.length l] 27));have b:ah w m:=by rw[<-j];exact P _ _
 have h:m.heap[w.heap.size]? =some (.cells #[.slice a1 d.1.length q,.slice a2 d.2.1.length g,.slice a3 d.2.2.length f] 27 (0,0)):=by
  rw[<-j,heap_alloc_old _ _ (by simp)];exact heap_alloc_new _ _
 have i:m.heap[w.heap.size+1]? =some (.cells #[.slice c1 e.1.length t,.slice c2 e.2.1.length x,.slice c3 e.2.2.length l] 27 (0,0)):=by rw[<-j];exact uN _ _ _
 obtain⟨B,C,D,_⟩:=cells3 h;obtain⟨E,F,G,_⟩:=cells3 i;go_enter Tryz.func67,Tryz.ntmps67;go_wp2_with fail
 clear j;refine(qabn (d:=d) (e:=e) _ (L.o.a b) (M.o.a b)).mono ?_
 rintro r W⟨rfl,c⟩;have a:ah w W:=b.trans (c.mono b.size);clear B C D E F G;obtain⟨B,C,D,_⟩:=cells3 (gI _ _ _ _ h c);obtain⟨E,F,G,_⟩:=cells3 (gI _ _ _ _ i c);clear c;generalize decide (d.1=e.1∧d.2.1=e.2.1)=r1 at *;cases r1
 ·go_wp2
  go_ret;exact⟨by first|rfl|(rw[A.o];rfl),a⟩
 go_wp2_with fail
 refine(qr7 d.2.2 e.2.2 a3 c3 _ f _ l _ (N.o.a a) (O.o.a a) rfl rfl).mono ?_
 rintro r X⟨rfl,n⟩;have p:=a.trans (n.mono a.size);generalize decide (d.2.2=e.2.2)=r2 at *;go_wp2;go_ret;exact⟨by first|rfl|(rw[A.o];rfl),p⟩
theorem bG.at(h:bG w base (.slice (some ⟨g,0,none⟩) n c) l)(j:Nat)(a:j<l.length):w.cell? ⟨g,j,none⟩=some (.int .u8 (l[j]).toNat):=by
 have b:(bO l)[j]? =some (.int .u8 (l[j]).toNat):=by simp[bO,List.getElem?_eq_getElem a]
 have:=World.ownsRow.cells h (g:=g) rfl _ _ b
 rw[Addr.add_lit]at this;simpa using this
theorem bG.len(h:bG w base (.slice (some ⟨g,0,none⟩) n c) l):n=l.length:=by
 obtain⟨a,b,e⟩:=h.form;cases e;rfl
theorem bG.fz(h:bG w base (.slice (some ⟨g,0,none⟩) n c) l)(j:Nat):w.frozen? ⟨g,j,none⟩=false:=by
 obtain rfl:=h.len;exact World.ownsRow.frozenAt h j
theorem bG.stored(h:bG w base (.slice (some ⟨g,0,none⟩) n c) l)(j:Nat)(b:UInt8):
  bG (w.setCell ⟨g,j,none⟩ (.int .u8 b.toNat)) base (.slice (some ⟨g,0,none⟩) n c) (l.set j b)∧w.grownBy (w.setCell ⟨g,j,none⟩ (.int .u8 b.toNat)) (some g):=by
 obtain rfl:=h.len;obtain⟨a,d⟩:=World.ownsRow.stored h j (.int .u8 b.toNat);refine⟨?_,d⟩;unfold bG;rw[List.length_set];have:bO (l.set j b)=(bO l).set j (.int .u8 b.toNat):=by simp[bO,List.map_set]
 rw[this];exact a
theorem qlu(data l:az)(o k:Nat)(a:k<l.length)(e:o+l.length<=data.length):(splice data o (l.take k)).set (o+k) l[k]=splice data o (l.take (k+1)):=by
 unfold splice;have e1:(data.take o).length=o:=by simp;omega
 have b:(l.take k).length=k:=by simp;omega
 have c:(l.take (k+1)).length=k+1:=by simp;omega
 rw[List.set_append_right _ _ (by omega),e1,show o+k-o=k by omega,List.set_append_right _ _ (by omega),b,Nat.sub_self,c];have d:o+k<data.length:=by omega
 rw[Xc4 d,List.set_cons_zero,Xa2 a,Xa8];rfl
theorem qyw{q n1 cnt:Nat}(a:o=q*128)(b:n1=128*cnt)(c:q<cnt)(d:cnt<=4096)(e:k<128):IntKind.i64.wrap ((q:Int)*128)=(o:Int)∧IntKind.i64.wrap ((o:Int)+(k:Int))=(o:Int)+k∧(o:Int)+k<n1∧(0:Int)<=(o:Int)+k∧((o:Int)+k).toNat=o+k:=by
 rw[IntKind.wrap_i64,IntKind.wrap_i64];refine⟨by omega,by omega,by omega,by omega,by omega⟩
theorem qabp(base B c j n1 cap n cnt q:Nat)(data l:az)(y z:Value)(w:World)(d:bG w base (.slice (some ⟨c,0,none⟩) n1 cap) data)(I:c<B)(L:bG w B (.slice (some ⟨j,0,none⟩) 128 n) l)(f:data.length=128*cnt)(g:cnt<=4096)(M:q<cnt)(hl:l.length=128):
  Calls Tryz.prog 245 #[.agg #[.slice (some ⟨c,0,none⟩) n1 cap,y,z],.agg #[.int .i64 q,.slice (some ⟨j,0,none⟩) 128 n]] w fun e w'=>e=.returned (.tuple #[])∧w.grownBy w' (some c)∧bG w' base (.slice (some ⟨c,0,none⟩) n1 cap) (oH data (q,l)):=by
 have p:n1=128*cnt:=d.len.trans f;obtain⟨o,h⟩:=ak (q*128);have S:c<w.heap.size:=(World.ownsRow.lt d c rfl).2;have r:=ag d;have T:=ag L;have N:=ag f;have E:=ag hl;have s:=ag (show oH data (q,l)=splice data o l by rw[oI _ _ hl,h];rfl);have U:=ag (show ∀k,k<128->_ from fun k O=>qyw h p M g O);have J:=ag (show o+128<=data.length by omega);clear d L f hl p h M g;obtain⟨F,G⟩:=au ((w.alloc (.cells #[.slice (some ⟨c,0,none⟩) n1 cap,y,z] 27)).alloc (.cells #[.int .i64 q,.slice (some ⟨j,0,none⟩) 128 n] 133));have b:ah w F:=by rw[<-G];exact(ae).alloc (by simp) _
 have t:F.heap[w.heap.size]? =some (.cells #[.slice (some ⟨c,0,none⟩) n1 cap,y,z] 27 (0,0)):=by
  rw[<-G,heap_alloc_old _ _ (by simp)];exact heap_alloc_new _ _
 have u:F.heap[w.heap.size+1]? =some (.cells #[.int .i64 q,.slice (some ⟨j,0,none⟩) 128 n] 133 (0,0)):=by rw[<-G];exact uN _ _ _
 go_enter Tryz.func245,Tryz.ntmps245;go_wp2;clear G;go_loopw [4] (fun i wr=>∃k:Nat,k<=128∧i=.int .i64 k∧af (bG wr base (.slice (some ⟨c,0,none⟩) n1 cap) (splice data o (l.take k)))∧F.grownBy wr (some c)) (fun i _=>128-(intOf i).toNat)
 case atStart=>
  refine⟨0,Xd5 _,rfl, ?_,Xc6 _ _⟩;show bG _ _ _ _
  have e:splice data o (l.take 0)=data:=by simp[splice]
  rw[e];exact r.o.a b
 obtain⟨k,O,rfl,h,a⟩:=hrel;by_cases K:k<128
 ·have x:(k:Int)<128:=by omega
  obtain⟨a1,a2,a3,a4,a5⟩:=U.o k K;have V:wr.heap[w.heap.size]? =some (.cells #[.slice (some ⟨c,0,none⟩) n1 cap,y,z] 27 (0,0)):=(a.block _ (Xd6.1 t).1 (by simp;omega)).trans t
  have W:wr.heap[w.heap.size+1]? =some (.cells #[.int .i64 q,.slice (some ⟨j,0,none⟩) 128 n] 133 (0,0)):=(a.block _ (Xd6.1 u).1 (by simp;omega)).trans u
  obtain⟨X,Y,Z,_⟩:=cells3 V;obtain⟨s0,s1,_⟩:=RP W;have A:k<l.length:=by have:=E.o;omega
  have C:=((T.o.a b).grown a I).at k A;obtain⟨H,m⟩:∃H:Int,H=((l[k]).toNat:Int):=⟨_,rfl⟩;rw[<-m]at C;have P:=ag m;have aa:=h.o.fz (o+k);have ab:=h.o.at (o+k) (by rw[length_splice];have:=J.o;omega;have:=J.o;have:=E.o;simp;omega);clear Y Z m;have hK:aN (fun D=>(D.cell? ⟨w.heap.size,0,none⟩=some (.slice (some ⟨c,0,none⟩) n1 cap)∧D.cell? ⟨w.heap.size+1,0,none⟩=some (.int .i64 q)∧D.cell? ⟨w.heap.size+1,1,none⟩=some (.slice (some ⟨j,0,none⟩) 128 n))∧D.cell? ⟨j,k,none⟩=some (.int .u8 H)):=((aV _ _).and ((aV _ _).and (aV _ _))).and (aV _ _);go_wp2
  refine sK hK 13 (by kernel_rfl) ⟨⟨X,s0,s1⟩,C⟩ ?_
  intro hS;refine lP [0,1,2,3,4,5,6,7,8,9,10,11,12] 1 ?jS ?dP hS ?jT
  case dP=>
   iterate 13 (apply Yl.cons rfl (by kernel_rfl);focus (rintro D⟨⟨x1,x2,x3⟩,x4⟩;go_simp<;>rfl);try simp only[aB])
   exact Yl.nil
  refine lL 13 (wr.drew.setCell ⟨c,o+k,none⟩ (.int .u8 H)) rfl (by go_simp) ?_
  try simp only[aB]
  refine lD ?_
  obtain⟨Q,R⟩:=h.o.stored (o+k) l[k];rw[qlu _ _ _ _ A (by have:=J.o;have:=E.o;omega),<-P.o]at Q;rw[<-P.o]at R;go_wp2;go_roundw
  case rel=>exact⟨k+1,by omega,by go_num,Q.a aI,Ah (Ah a R) (xn (Aj aI) _)⟩
  simp[intOf]<;>omega
 have x:decide ((k:Int)<128)=false:=aC (by omega);obtain rfl:k=128:=by omega
 go_wp2;refine bodyPost_end (v:=.tuple #[]) (by simp[results,Tryz.results245,go_sem]) rfl ?_
 refine⟨rfl,⟨a.os.trans (Aj b).os,a.tape.trans (Aj b).tape,a.output.trans (Aj b).output,aG b.size a.size,fun i hi hr=>(a.block i (Xb8 hi b.size) hr).trans ((Aj b).block i hi (by simp))⟩, ?_⟩;rw[s.o];have:=h.o
 rwa [Xa1 (by have:=E.o;omega)]at this
theorem EM(g a n c k:Nat)(w:World)(f:k+4<=n)(h:n<=c)(b:c<=maxLen):
  Calls Tryz.prog 229 #[.slice (some ⟨g,a,none⟩) n c,.int .i64 k] w fun e w'=>e=.returned (.func (.func 264) #[] #[.pointer (some ⟨w.heap.size,0,none⟩)])∧ah w w'∧w'.cell? ⟨w.heap.size,0,none⟩=some (.slice (some ⟨g,a+k,none⟩) 4 (c-k))∧w'.heap.size=w.heap.size+1:=by
 have i:wrap64 ((k:Int)+4)=((k+4:Nat):Int):=by unfold wrap64;unfold maxLen at b;omega
 have j:((k+4:Nat):Int)<=c:=by omega
 have l:¬k=c:=by omega
 have m:k+4<=c:=by omega
 have d:k+4-k=4:=by omega
 go_enter Tryz.func229,Tryz.ntmps229;go_wp2;go_ret;rw[d];exact⟨rfl,ae,by simp,by simp⟩
theorem qr9{j:Nat}(h:j<4):∃m:Nat,m=8*j∧wrap64 (8*(j:Int))=(m:Int)∧IntKind.i64.wrap (8*(j:Int))=(m:Int)∧(m:Int)<=32:=by
 refine⟨8*j,rfl, ?_, ?_,by omega⟩
 ·unfold wrap64;omega
 rw[IntKind.wrap_i64];omega
theorem qafy(x j m:Nat)(a:m=8*j)(h:j<4):IntKind.u8.wrap ((x:Int) / 2^m)=(((gV x)[j]'(by rw[zo];exact h)).toNat:Int):=by
 rw[qaka x j h,a,IntKind.wrap_u8',UInt8.toNat_ofNat'];have e:((2:Int)^(8*j))=((2^(8*j):Nat):Int):=by rw[Int.natCast_pow];rfl
 rw[e,<-Int.natCast_ediv];generalize x / 2^(8*j)=y;omega
theorem qn0{w':World}(c:w.grownBy w' (some g))(b:w.cell? ⟨k,o,none⟩=some v)(a:k≠g):w'.cell? ⟨k,o,none⟩=some v:=by
 rw[<-b];unfold World.cell?;rw[show w'.heap[k]? =w.heap[k]? from c.block _ (Xa6 w _ b) (by simpa using a)]
theorem Tx(base g n c k q C:Nat)(l:az)(x:Nat)(w:World)(d:bG w base (.slice (some ⟨g,0,none⟩) n c) l)(a:w.cell? ⟨q,0,none⟩=some (.slice (some ⟨g,k,none⟩) 4 C))(r:q≠g)(J:k+4<=l.length)(K:x<4294967296):
  Calls Tryz.prog 264 #[.bool true,.int .u32 x,.pointer (some ⟨q,0,none⟩)] w fun e w'=>(∃v,e=.returned v)∧w.grownBy w' (some g)∧bG w' base (.slice (some ⟨g,0,none⟩) n c) (splice l k (gV x)):=by
 have s:=ag d;have h:=ag J;have Y:=ag K;have U:q<w.heap.size:=Xa6 w _ a;clear d J K;go_enter Tryz.func264,Tryz.ntmps264;go_wp2;go_loopw [6,10] (fun t i wr=>∃(j:Nat) (z:Int),j<=4∧i=.int .i64 j∧t=.int .u32 z∧af (bG wr base (.slice (some ⟨g,0,none⟩) n c) (splice l k ((gV x).take j)))∧w.grownBy wr (some g)) (fun _ i _=>4-(intOf i).toNat)
 case atStart=>
  refine⟨0,0,Xd5 _,rfl,rfl, ?_,Xc6 _ _⟩;show bG _ _ _ _
  have e:splice l k ((gV x).take 0)=l:=by simp[splice]
  rw[e];exact s.o
 obtain⟨j,z,Z,rfl,rfl,u,p⟩:=hrel;by_cases b:j<4
 ·have y:(j:Int)<4:=by omega
  obtain⟨m,L,a1,a2,a3⟩:=qr9 b;have V:=ag L;clear L;have M:wr.cell? ⟨q,0,none⟩=some (.slice (some ⟨g,k,none⟩) 4 C):=qn0 p a r;have D:=u.o.fz (k+j);have E:=u.o.at (k+j) (by rw[length_splice];have:=h.o;omega;have:=h.o;simp[zo];omega);obtain⟨f,F,A⟩:∃f:UInt8,IntKind.u8.wrap ((x:Int) / 2^m)=(f.toNat:Int)∧f=(gV x)[j]'(by rw[zo];exact b):=⟨_,qafy x j m V.o b,rfl⟩;have N:=ag A;clear A;have O:aN (fun P=>P.cell? ⟨q,0,none⟩=some (.slice (some ⟨g,k,none⟩) 4 C)):=aV _ _;go_wp2
  refine sK O 8 (by kernel_rfl) M ?_
  intro Q;refine lP [0,1,2,3,4,5,6,7] 1 ?jS ?dP Q ?jT
  case dP=>
   iterate 8 (apply Yl.cons rfl (by kernel_rfl);focus (rintro P x1;go_simp<;>rfl);try simp only[aB])
   exact Yl.nil
  refine lL 8 (wr.drew.setCell ⟨g,k+j,none⟩ (.int .u8 f.toNat)) rfl (by go_simp) ?_
  try simp only[aB]
  refine lD ?_
  clear Q O F E;obtain⟨G,R⟩:=u.o.stored (k+j) f;rw[N.o,qlu _ _ _ _ (by rw[zo];exact b) (by rw[zo];exact h.o),<-N.o]at G;have H:bG (wr.drew.setCell ⟨g,k+j,none⟩ (.int .u8 f.toNat)) base (.slice (some ⟨g,0,none⟩) n c) (splice l k ((gV x).take (j+1))):=G.a aI;have S:w.grownBy (wr.drew.setCell ⟨g,k+j,none⟩ (.int .u8 f.toNat)) (some g):=Ah (Ah p R) (xn (Aj aI) _);have W:=qn0 S a r;have I:=H.at (k+j) (by rw[length_splice];have:=h.o;omega;have:=h.o;simp[zo];omega);obtain⟨T,B⟩:∃T:Int,T=(((splice l k ((gV x).take (j+1)))[k+j]'(by rw[length_splice];have:=h.o;omega;have:=h.o;simp[zo];omega)).toNat:Int):=⟨_,rfl⟩;rw[<-B]at I;clear B;have X:=ag H;clear G H R D M u;generalize wr.drew.setCell ⟨g,k+j,none⟩ (.int .u8 f.toNat)=ws at *;go_wp2;go_roundw
  case rel=>exact⟨j+1,_,by omega,by go_num,rfl,X,S⟩
  simp[intOf]<;>omega
 have y:decide ((j:Int)<4)=false:=aC (by omega);obtain rfl:j=4:=by omega
 go_wp2;go_ret;refine⟨⟨_,rfl⟩,p, ?_⟩;have:=u.o
 rwa [Xa1 (by rw[zo];omega)]at this
theorem KM(j m u:Nat)(b:UInt8)(d:m=8*j)(i:j<4)(c:u<256^j):bits .or .u32 (u:Int) ((b.toNat:Int)%4294967296*2^m%4294967296)=((u+b.toNat*256^j:Nat):Int):=by
 have k:=b.toNat_lt;have f:(256:Nat)^j=2^m:=by rw[d,Nat.pow_mul]
 rw[f]at c⊢;have g:(2:Nat)^m<=2^24:=Nat.pow_le_pow_right (by decide) (by omega);have a:b.toNat*2^m<4294967296:=by
  have:b.toNat*2^m<=255*2^m:=Nat.mul_le_mul_right _ (by omega)
  omega
 have e:((b.toNat:Int)*2^m)=((b.toNat*2^m:Nat):Int):=by rw[Int.natCast_mul,Int.natCast_pow];rfl
 rw[show(b.toNat:Int)%4294967296=b.toNat by omega,e];have h:((b.toNat*2^m:Nat):Int)%4294967296=((b.toNat*2^m:Nat):Int):=by omega
 rw[h,u32_or_nat _ _ (by omega) a,Nat.or_comm,nat_join m _ _ (by simp) c,Nat.add_comm]
theorem Ty(g a r s:Nat)(b:az)(w:World)(hb:b.length=4)(d:Rd w (.slice (some ⟨g,a,none⟩) 4 s) b)(n:w.cell? ⟨r,0,none⟩=some (.slice (some ⟨g,a,none⟩) 4 s)):
  Calls Tryz.prog 264 #[.bool false,.int .u32 0,.pointer (some ⟨r,0,none⟩)] w fun e w'=>e=.returned (.int .u32 (jK b))∧w'=w:=by
 have v:=ag hb;have f:∀j,(h:j<b.length)->w.cell? ⟨g,a+j,none⟩=some (.int .u8 (b[j]).toNat):=by
  rcases d with⟨rfl,_⟩|⟨G,x,H,e,_,_,p⟩
  ·exact absurd hb (by decide)
  simp only[Value.slice.injEq,Option.some.injEq,Addr.mk.injEq]at e
  obtain⟨⟨rfl,rfl,_⟩,_,rfl⟩:=e;exact p
 have B:=ag f;clear hb d f;go_enter Tryz.func264,Tryz.ntmps264;go_wp2;go_loop [6,10] (fun t i=>∃j:Nat,j<=4∧i=.int .i64 j∧t=.int .u32 (jK (b.take j))) (fun _ i=>4-(intOf i).toNat)
 case atStart=>exact⟨0,Xd5 _,rfl,rfl⟩
 obtain⟨j,I,rfl,rfl⟩:=hrel;by_cases c:j<4
 ·have z:(j:Int)<4:=by omega
  obtain⟨m,A,a1,a2,a3⟩:=qr9 c;have C:=ag A;clear A;have k:j<b.length:=by rw[v.o];exact c
  have p:=B.o j k;obtain⟨u,l⟩:∃u:Nat,u=jK (b.take j):=⟨_,rfl⟩;have D:=ag (show jK (b.take (j+1))=u+(b[j]).toNat*256^j by rw[l];exact qafn b j k)
  have E:=ag (show u<256^j by
   rw[l];have:=Kv (b.take j);rwa [Xa4,Xc3 (by omega)]at this)
  rw[<-l];obtain⟨y,q⟩:∃y:UInt8,y=b[j]:=⟨_,rfl⟩;rw[<-q]at p;have F:=ag q;clear l q;go_wp2
  go_round
  case rel=>exact⟨j+1,by omega,by go_num,by rw[D.o,<-KM j m u _ C.o c E.o,<-F.o]⟩
  simp[intOf]<;>omega
 obtain rfl:j=4:=by omega
 go_wp2;go_ret;refine⟨?_,rfl⟩;rw[Xa1 (by rw[v.o];omega)];rfl
theorem qn7(a:Nat)(w:World)(c:a<4294967296):
  Calls Tryz.prog 153 #[.int .u32 a] w fun e w'=>e=.returned (.tuple #[.int .i64 (a%2:Nat),.int .i64 (2+a%2*16:Nat)])∧w'=w:=by
 have d:bits .and .u32 (a:Int) 1=((a%2:Nat):Int):=by
  rw[show(1:Int)=((1:Nat):Int)from rfl,u32_and_nat _ _ c (by decide),nat_mask1]
 obtain⟨m,b⟩:=ak (a%2);have f:m<2:=by omega
 rw[<-b]at d⊢;clear b;have g:IntKind.i64.wrap (m:Int)=m:=by rw[IntKind.wrap_i64];omega
 have h:wrap64 ((m:Int)*16)=((m*16:Nat):Int):=by unfold wrap64;omega
 have i:wrap64 (2+((m*16:Nat):Int))=((2+m*16:Nat):Int):=by unfold wrap64;omega
 go_enter Tryz.func153,Tryz.ntmps153;go_wp2;go_ret2;refine⟨?_,rfl⟩;rw[show((2+m*16:Nat):Int)=2+(m:Int)*16 by omega];rfl
theorem qyx(a:Nat)(size:Int)(w:World)(J:a<4294967296):
  Calls Tryz.prog 169 #[.int .u32 a,.int .i64 size] w fun e w'=>∃B,e=.returned (.tuple #[B,.int .i64 (iT a size).2])∧bG w' w.heap.size B (iT a size).1∧ah w w':=by
 by_cases C:a=0
 ·have c:=ag (show iT a size=([],2)by unfold iT;rw[if_pos (.inl C)])
  have z:(a:Int)=0:=by omega
  go_enter Tryz.func169,Tryz.ntmps169;go_wp2;go_ret2;rw[c.o];exact⟨_,rfl,Xa7 _ _ _ _,aF⟩
 have z:¬(a:Int)=0:=by omega
 by_cases D:size<0
 ·have c:=ag (show iT a size=([],2)by unfold iT;rw[if_pos (.inr (.inl D))])
  go_enter Tryz.func169,Tryz.ntmps169;go_wp2;go_ret2;rw[c.o];exact⟨_,rfl,Xa7 _ _ _ _,aF⟩
 have K:decide (size<0)=false:=by simpa using D
 by_cases E:2048<size
 ·have c:=ag (show iT a size=([],2)by unfold iT;rw[if_pos (.inr (.inr E))])
  go_enter Tryz.func169,Tryz.ntmps169;go_wp2;go_ret2;rw[c.o];exact⟨_,rfl,Xa7 _ _ _ _,aF⟩
 have L:decide (2048<size)=false:=by simpa using E
 obtain⟨s,rfl⟩:∃s:Nat,size=s:=⟨size.toNat,by omega⟩
 have hs:s<=2048:=by omega
 have c:=ag (show iT a s=(gV a++(gV s++List.replicate 120 0),0)by rw[qrx C (by omega) (by omega)];rfl);have M:IntKind.u32.wrap (s:Int)=s:=by rw[IntKind.wrap_u32'];omega
 have Fw:(s:Int)%4294967296=s:=by omega
 obtain⟨N,hi,j,l,m⟩:=info_parts Tryz.infoB;obtain⟨i,F,b,n⟩:=run_make_full (P:=Tryz.prog) w w.heap.size 23 5 N _ 1 Tryz.underlying23 hi j l .i64 .i64 128 (by rw[m];omega) (by unfold maxLen;omega) aL;have O:(Instr.makeSlice 23 (.int .i64 128) (.int .i64 128)).run Tryz.prog w=.ok (.slice (some ⟨w.heap.size,0,none⟩) 128 128) i:=F;have p:ah w i:=aF.grown n aL (fun k q=>by cases q);have d:bG i w.heap.size (.slice (some ⟨w.heap.size,0,none⟩) 128 128) (List.replicate 128 0):=by
  show i.ownsRow _ _ _ _ _ _
  rw[Xc1];have e:(madeCells (Value.int IntKind.u8 0).cells (128*1)).toList=bO (List.replicate 128 0):=by
   show(madeCells #[Value.int .u8 0] (128*1)).toList=_
   rw[toList_madeCells_one];simp[bO]
  rw[<-e];exact b
 have Q:w.heap.size<i.heap.size:=(d.lt _ rfl).2;have R:=ag d;clear b n j l m hi d F;go_enter Tryz.func169,Tryz.ntmps169;go_wp2_with fail
 refine(EM w.heap.size 0 128 128 0 _ (by omega) (by omega) (by unfold maxLen;omega)).mono ?_
 clear O;rintro e S⟨rfl,f,r,T⟩;have t:ah w S:=p.trans (f.mono p.size);go_wp2_with fail
 refine(Tx w.heap.size w.heap.size 128 128 0 i.heap.size 128 (List.replicate 128 0) a _ (R.o.a f) r (by omega) (by simp) J).mono ?_
 rintro e G⟨⟨v4,rfl⟩,g,u⟩;have v:ah w G:=t.grown g t.size (fun k q=>by cases q;exact Nat.le_refl _);have U:=g.size;have V:=ag u;clear u g r f;go_wp2_with fail
 refine(EM w.heap.size 0 128 128 4 _ (by omega) (by omega) (by unfold maxLen;omega)).mono ?_
 rintro e W⟨rfl,h,x,X⟩;have H:ah w W:=v.trans (h.mono v.size);go_wp2_with fail
 refine(Tx w.heap.size w.heap.size 128 128 4 G.heap.size 124 _ s _ (V.o.a h) x (by omega) (by rw[length_splice];simp;simp[zo]) (by omega)).mono ?_
 rintro e Y⟨⟨v6,rfl⟩,I,y⟩;have A:ah w Y:=H.grown I H.size (fun k q=>by cases q;exact Nat.le_refl _);have Z:=ag y;clear y I x h;go_wp2;go_ret2;rw[c.o];refine⟨_,rfl, ?_,A⟩;have e:splice (splice (List.replicate 128 0) 0 (gV a)) 4 (gV s)=gV a++(gV s++List.replicate 120 0):=by rfl
 rw[<-e];exact Z.o
theorem qakh(b:az)(v:Value)(w:World)(d:Rd w v b):
  Calls Tryz.prog 216 #[v] w fun e w'=>e=.returned (.tuple #[.int .u32 (jL b).1,.int .i64 (jL b).2.1,.int .i64 (jL b).2.2])∧ah w w':=by
 obtain⟨a,c,rfl⟩:=d.form;by_cases hl:b.length=128
 ·have HL:=ag hl
  rw[hl]at d⊢;obtain⟨g,h,rfl, -,q,k⟩:=Fj d 0 4 (by omega) (by omega);obtain⟨g',r,L, -, -,l⟩:=Fj d 4 8 (by omega) (by omega);cases L;have s:c<=maxLen:=by
   rcases d with⟨rfl,_⟩|⟨b',r,c',e,h1,M,hc⟩
   ·exact absurd hl (by decide)
   simp only[Value.slice.injEq]at e
   rw[e.2.2];exact M
  have e1:(b.drop 0).take (4-0)=b.take 4:=rfl;have K:(b.drop 4).take (8-4)=(b.drop 4).take 4:=rfl;rw[e1]at k;rw[K]at l;have C:(b.take 4).length=4:=by rw[Xa4];omega
  have D:((b.drop 4).take 4).length=4:=by rw[Xa4,Xa9];omega
  obtain⟨G,A⟩:=ak (jK (b.take 4));obtain⟨Z,B⟩:=ak (jK ((b.drop 4).take 4));have N:G<4294967296:=by rw[A];have:=Kv (b.take 4);rw[C]at this;omega
  have hZ:Z<4294967296:=by rw[B];have:=Kv ((b.drop 4).take 4);rw[D]at this;omega
  have E:=ag (show jL b=if(iT G Z).2≠0∨b≠(iT G Z).1 then(0,0,8)else(G,Z,0)by unfold jL;rw[if_neg (by omega),<-A,<-B]);have O:=ag d;have F:=ag k;have H:=ag l;have P:=ag C;have I:=ag D;have Q:=ag A;have R:=ag B;have S:IntKind.i64.wrap (Z:Int)=Z:=by rw[IntKind.wrap_i64];omega
  clear hl d k l e1 K C D A B;go_enter Tryz.func216,Tryz.ntmps216;go_wp2_with fail
  refine(EM g h 128 c 0 _ (by omega) q s).mono ?_
  rintro e w1⟨rfl,m,t, -⟩;go_wp2_with fail
  refine(Ty g (h+0) w.heap.size (c-0) _ _ P.o (F.o.a m) t).mono ?_
  rintro e J⟨rfl,rfl⟩;rw[<-Q.o];go_wp2_with fail
  refine(EM g h 128 c 4 _ (by omega) q s).mono ?_
  rintro e T⟨rfl,u,x, -⟩;have n:ah w T:=m.trans (u.mono m.size);go_wp2_with fail
  refine(Ty g (h+4) J.heap.size (c-4) _ _ I.o (H.o.a n) x).mono ?_
  rintro e U⟨rfl,rfl⟩;rw[<-R.o];clear t x u;go_wp2_with fail
  refine(qyx G Z _ N).mono ?_
  rintro e V⟨bv,rfl,y,z⟩;have i:ah w V:=n.trans (z.mono n.size);have W:=ag y;clear y z;by_cases j:(iT G Z).2=0
  ·rw[j]
   go_wp2_with fail
   refine(qrt _ _ b (iT G Z).1 _ (O.o.a i) W.o.rd).mono ?_
   rintro e X⟨rfl,rfl⟩;by_cases f:b=(iT G Z).1
   ·have p:=ag (show jL b=(G,Z,0)by rw[E.o,if_neg (by rw[j];simp[<-f])])
    rw[Xd8 f];clear f;go_wp2;go_ret3;rw[p.o];exact⟨rfl,i⟩
   have p:=ag (show jL b=(0,0,8)by rw[E.o,if_pos (.inr f)]);rw[Xd7 f];clear f;go_wp2;go_ret3;rw[p.o];exact⟨rfl,i⟩
  have p:=ag (show jL b=(0,0,8)by rw[E.o,if_pos (.inl j)]);rw[show(iT G Z).2=2 by rw[qnt j]];go_wp2;go_ret3;rw[p.o];exact⟨rfl,i⟩
 have p:=ag (show jL b=(0,0,3)by unfold jL;rw[if_pos hl]);have Y:¬(b.length:Int)=128:=by omega
 go_enter Tryz.func216,Tryz.ntmps216;go_wp2;go_ret3;rw[p.o];exact⟨rfl,aF⟩
def iD (d:Dk):Nat->Nat×Nat
 |0=>(0,0)
 |k+1=>sU (iD d k) (mi d k)
theorem qul(k:Nat)(w:World)(C:kN w v d)(j:okD d=true)(J:34<bD d)(R:k<2):
  Calls Tryz.prog 151 #[v,.int .i64 k] w fun e w'=>e=.returned (.tuple #[.int .u32 (mi d k).1,.int .i64 (mi d k).2])∧ah w w':=by
 obtain⟨a1,c1,a2,c2,a3,c3,rfl,D,K,_⟩:=C.form;obtain⟨c, -,l, -⟩:=(sM d).1 j;have m:d.1.length=128*bD d:=by unfold bD;omega
 have f:(k+1)*128<=d.1.length:=by omega
 obtain⟨E,F,rfl, -,n,a⟩:=Fj D (k*128) ((k+1)*128) (by omega) f;have G:(d.1.drop (k*128)).take ((k+1)*128-k*128)=blk d.1 k:=by
  unfold blk;rw[show(k+1)*128-k*128=128 by omega,Nat.mul_comm]
 rw[G]at a;have H:(k+1)*128-k*128=128:=by omega
 rw[H]at a;have L:=ag a;generalize e1:d.1.length=n1 at *;generalize M:d.2.1.length=n2 at *;generalize N:d.2.2.length=n3 at *;have p:(k+1)*128<=c1:=by omega
 have O:¬k*128=c1:=by omega
 clear C D K a G c m J l e1 M N;obtain⟨q,s,t⟩:=Kr k (by omega);obtain⟨I,u⟩:=au (w.alloc (.cells #[.slice (some ⟨E,F,none⟩) n1 c1,.slice a2 n2 c2,.slice a3 n3 c3] 27));have b:ah w I:=by rw[<-u];exact ae
 have P:I.cell? ⟨w.heap.size,0,none⟩=some (.slice (some ⟨E,F,none⟩) n1 c1):=by rw[<-u];simp
 obtain⟨r,x⟩:=ak (jL (blk d.1 k));have y:=ag x;have z:r.1<4294967296:=by rw[x];exact(rz _).1
 clear x;go_enter Tryz.func151,Tryz.ntmps151;go_wp2_with fail
 refine(qakh (blk d.1 k) _ _ (L.o.a b)).mono ?_
 rintro e Q⟨rfl,g⟩;have h:ah w Q:=b.trans (g.mono b.size);rw[<-y.o];clear u P b g q s t O p H n f;go_wp2_with fail
 refine(qn7 r.1 _ z).mono ?_
 rintro e S⟨rfl,rfl⟩;by_cases i:r.1%2=k
 ·have A:=ag (show mi d k=(r.1,r.2.1)by unfold mi;rw[<-y.o,if_pos i])
  have B:((r.1%2:Nat):Int)=k:=by omega
  clear i;go_wp2;go_ret2;rw[A.o];exact⟨rfl,h⟩
 have A:=ag (show mi d k=(0,0)by unfold mi;rw[<-y.o,if_neg i]);have B:¬((r.1%2:Nat):Int)=k:=by omega
 clear i;go_wp2;go_ret2;rw[A.o];exact⟨rfl,h⟩
theorem qum(w:World)(B:kN w v d):
  Calls Tryz.prog 76 #[v] w fun e w'=>e=.returned (.tuple #[.int .u32 (jl d).1,.int .i64 (jl d).2.1,.int .i64 (jl d).2.2])∧ah w w':=by
 obtain⟨a1,c1,a2,c2,a3,c3,rfl,_,_,_⟩:=B.form;have P:=ag B;clear B;generalize e1:d.1.length=n1 at *;generalize W:d.2.1.length=n2 at *;generalize X:d.2.2.length=n3 at *;clear e1 W X;obtain⟨A,p⟩:=au (w.alloc (.cells #[.slice a1 n1 c1,.slice a2 n2 c2,.slice a3 n3 c3] 27));have h:ah w A:=by rw[<-p];exact ae
 have Q:A.cell? ⟨w.heap.size,0,none⟩=some (.slice a1 n1 c1):=by rw[<-p];simp
 have R:A.cell? ⟨w.heap.size,1,none⟩=some (.slice a2 n2 c2):=by rw[<-p];simp
 have S:A.cell? ⟨w.heap.size,2,none⟩=some (.slice a3 n3 c3):=by rw[<-p];simp
 go_enter Tryz.func76,Tryz.ntmps76;go_wp2_with fail
 refine(qwk (d:=d) _ (P.o.a h)).mono ?_
 rintro e C⟨rfl,c⟩;have j:ah w C:=h.trans (c.mono h.size);have Y:=aV _ _ _ _ Q c;have D:=aV _ _ _ _ R c;have E:=aV _ _ _ _ S c;clear p Q R S h c;rcases Hd d with⟨l,a⟩|⟨l,a⟩
 ·have f:Bo d=((bD d:Int),0):=by unfold Bo;rw[if_neg (by rw[a];decide)]
  rw[f];obtain⟨q,F⟩:=ak (bD d);rw[<-F];have G:=ag F;have T:=ag a;have Z:=ag l;clear f F a l;by_cases H:q<=34
  ·have m:=ag (show jl d=(0,0,70)by unfold jl;rw[if_neg (by rw[T.o];decide),if_pos (by rw[<-G.o];exact H)])
   have t:(q:Int)<=34:=by omega
   go_wp2;go_ret3;rw[m.o];exact⟨rfl,j⟩
  have m:=ag (show jl d=if(iD d 2).1=0 then(0,0,70)else((iD d 2).1,(iD d 2).2,0)by unfold jl;rw[if_neg (by rw[T.o];decide),if_neg (by rw[<-G.o];exact H)];rfl);have t:decide ((q:Int)<=34)=false:=aC (by omega);have HM:=ag (show 34<bD d by rw[<-G.o];omega);clear H;go_wp2;clear t;go_loopw [2,3,19] (fun g s i wr=>∃k:Nat,k<=2∧i=.int .i64 k∧g=.int .u32 (iD d k).1∧s=.int .i64 (iD d k).2∧ah C wr) (fun _ _ i _=>2-(intOf i).toNat)
  case atStart=>exact⟨0,Xd5 _,rfl,rfl,rfl,aF⟩
  obtain⟨k,hk,rfl,rfl,rfl,b⟩:=hrel;have n:ah w wr:=j.trans (b.mono j.size);obtain⟨r,I⟩:=ak (iD d k);rw[<-I];have J:=ag I;clear I;by_cases K:k<2
  ·have u:(k:Int)<2:=by omega
   have l0:=aV _ _ _ _ Y b;have l1:=aV _ _ _ _ D b;have l2:=aV _ _ _ _ E b;go_wp2_with fail
   refine(qul (d:=d) k _ (P.o.a n) Z.o HM.o K).mono ?_
   rintro e w3⟨rfl,x⟩;obtain⟨s,L⟩:=ak (mi d k);rw[<-L];have U:=ag L;have V:ah C w3:=b.trans (x.mono b.size);clear L x l0 l1 l2;by_cases y:r.1<s.1
   ·have KO:(r.1:Int)<s.1:=by omega
    have z:=ag (show iD d (k+1)=s by show sU (iD d k) (mi d k)=s;rw[<-J.o,<-U.o];unfold sU;rw[if_pos y]);go_wp2;go_roundw
    case rel=>exact⟨k+1,by omega,by go_num,by rw[z.o],by rw[z.o],V⟩
    simp[intOf]<;>omega
   have KO:decide ((r.1:Int)<s.1)=false:=aC (by omega);have z:=ag (show iD d (k+1)=r by show sU (iD d k) (mi d k)=r;rw[<-J.o,<-U.o];unfold sU;rw[if_neg y]);go_wp2;go_roundw
   case rel=>exact⟨k+1,by omega,by go_num,by rw[z.o],by rw[z.o],V⟩
   simp[intOf]<;>omega
  have u:decide ((k:Int)<2)=false:=aC (by omega);obtain rfl:k=2:=by omega
  rw[<-J.o]at m;by_cases M:r.1=0
  ·have N:=ag (m.o.trans (if_pos M))
   have O:(r.1:Int)=0:=by omega
   go_wp2;go_ret3;rw[N.o];exact⟨rfl,n⟩
  have N:=ag (m.o.trans (if_neg M));have O:¬(r.1:Int)=0:=by omega
  clear M;go_wp2;go_ret3;rw[N.o];exact⟨rfl,n⟩
 have f:Bo d=(0,20):=by unfold Bo;rw[if_pos (by rw[a];decide),a]
 rw[f];have m:=ag (show jl d=(0,0,20)by unfold jl;rw[if_pos (by rw[a];decide),a]);clear a l f;go_wp2;go_ret3;rw[m.o];exact⟨rfl,j⟩
end Go.Proofs.YtmeaiocohalphaaGreatDoor
