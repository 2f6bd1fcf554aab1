/-
  Whether two tables, two rows of tables are the same; where a table stands in a row.
-/
import Derived.Test.YtmeaiocohalphaaGreatDoorNf4
import Derived.Shelf.Bytes.SlJoin
set_option maxHeartbeats 4000000
set_option maxRecDepth 100000
namespace Go.Proofs.YtmeaiocohalphaaGreatDoor
open Go.RowKit
set_option linter.all false
variable {w w':World}{v:Value}{l:az}{f:aR}
theorem qtg:∀(k:Nat) (s:lK),(dA k s).1.flatten.length<=32*k
 |0,s=>by simp[dA]
 |k+1,s=>by
  have a:=qtg k s;have b:=Rw 32 (dA k s).2;rw[dA,List.flatten_append,Xa0];simp only[List.flatten_cons,List.flatten_nil,Xc8,dI];omega
theorem qth(s:lK):(jh s).1.1.flatten.length<=128:=qtg 4 s
theorem aQ.bx{A:Nat}{nx sq:Int}{lg:az}(h:aQ w A v nx sq lg):Bx w A 36 #[v,.int .i64 nx,.int .i64 sq,.string (bs lg)]:=h
theorem qalm(a:aA)(n c:Nat)(b:az)(w:World)(x:Rd w (.slice a n c) b)(hn:n=b.length):
  Calls Tryz.prog 17 #[.slice a n c] w fun e w'=>vL w.heap.size (eD b) (dx b) e w'∧ah w w':=by
 obtain⟨t,g⟩:∃t,t=w.alloc (.cells #[.slice none 0 0,.int .i64 0,.int .i64 0,.string {data:=#[]}] 36):=⟨_,rfl⟩
 have l:ah w t:=by rw[g];exact ae
 have hs1:t.heap.size=w.heap.size+1:=by rw[g];simp
 have y:=ag (show aQ t w.heap.size (.slice none 0 0) 0 0 []by rw[g];exact aQ.new w _ 0 0 []);have P:=ag l;by_cases hl:16384<n
 ·have al:(16384:Int)<n:=by omega
  have i:=ag (show dx b=3∧eD b=fo by
   have e:dx b=3:=by unfold dx;rw[if_pos (by omega)]
   exact⟨e,by unfold eD;rw[e,if_neg (by decide)]⟩)
  clear l hs1 x hn;go_enter Tryz.func17,Tryz.ntmps17;go_wp2;rw[<-g];clear g;obtain⟨Q,R,T,U⟩:=y.o.cells;refine bodyPost_ret (v:=.tuple #[.agg #[.slice none 0 0,.int .i64 0,.int .i64 0,.string {data:=#[]}],.int .i64 3]) ?_ rfl ⟨by rw[i.o.1,i.o.2];exact⟨_,[],rfl,dM.nil _ _,rfl⟩,P.o⟩
  try simp only[show bs ([]:az)={data:=#[]}from rfl,Int.natCast_zero,Int.ofNat_zero,Int.cast_ofNat_Int]at Q R T U
  simp[results,Tryz.results17,go_sem, *]
 have al:decide ((16384:Int)<n)=false:=aC (by omega);have an:decide (16384<n)=false:=Xd7 hl;obtain⟨z,j⟩:=ak (t.alloc (.cells #[.slice a n c,.bool false] 100));have A:ah t z:=by rw[j];exact ae
 have W:z.heap.size=w.heap.size+2:=by rw[j];simp[hs1]
 have X:qY z (w.heap.size+1) (.slice a n c) false:=by rw[j,<-hs1];exact Bx.new t _ _
 have Y:ah w z:=l.trans (A.mono (by omega));have aa:pq w z (w.heap.size+1) (some b):=⟨⟨a,n,c,b,X,hn,.inl x,by omega,fun l' h=>by cases h;rfl⟩,by omega,Y⟩;have ab:=ag (y.o.a A);have HN:=ag (show b.length<=16384 by omega);obtain⟨Z,hZ⟩:=ak (jh (some b));have d:=qzn w (w.heap.size+1) (some b) z aa;have Xe:Z.1.1.flatten.length<=128:=by rw[hZ];exact qth _
 rw[<-hZ]at d;have O:=ag hZ;have ac:=ag W;clear l hs1 A W X Y aa x hn y P hZ hl;go_enter Tryz.func17,Tryz.ntmps17;go_wp2_with fail
 rw[<-g];rw[<-j];clear g j;refine d.mono ?_
 rintro e w3⟨a3,c3,S,rfl,ho,B,hm,hk⟩;have ad:=ag (ab.o.keep hk.1 (by decide));have kX:=ag (show(aT S).flatten.length<=100000 by rw[B];omega);have Gx:=ag B;have C:=ag hm.bel;have ai:w.heap.size+2<=w3.heap.size:=by have:=ac.o;have:=hk.2;omega
 have AZ:=ag ai;have sV:=ag ho;have Ck:=ag hm;clear d ho B hm hk ab Xe ai;obtain⟨⟨⟨L4,nx,sq,lg⟩,st⟩,aj⟩:=ak Z;rw[<-aj]at O Gx Ck;subst aj;obtain⟨w4,f⟩:=ak (w3.alloc (.cells #[.slice a3 4 c3,.int .i64 nx,.int .i64 sq,.string (bs lg)] 36));have b4:ah w3 w4:=by rw[f];exact ae
 have EI:=ag (show aQ w4 w3.heap.size (.slice a3 4 c3) nx sq lg by rw[f];exact aQ.new w3 _ nx sq lg);have EP:=ag (ad.o.a b4);have fG:=ag (C.o.trans (b4.mono C.o.size));have kV:=ag ((sV.o.a b4).mono (show w.heap.size<=z.heap.size by have:=ac.o;omega));have EO:=ag (Ck.o.a b4);clear b4 ad C sV Ck;obtain⟨v0,v1,v2,v3⟩:=EI.o.cells;obtain⟨ra,rn,rc,rl,m,p, -, -,q⟩:=EO.o.st;obtain⟨q0,q1⟩:=m.cells;cases st with
 |none=>
  replace q1:w4.cell? ⟨w.heap.size+1,1,none⟩=some (.bool true):=q1
  have i:=ag (show dx b=8∧eD b=fo by
   have e:=Rz HN.o (by rw[<-O.o]);exact⟨e,by unfold eD;rw[e,if_neg (by decide)]⟩)
  clear m p q;have e4:=f.symm;clear f;obtain⟨w9,k,D,u,F,G,H,I,J,K,L,M,Q,R,T,U⟩:=yD EP fG aL;go_wp2;try rw[k]
  clear F G H I J K L M k u;refine bodyPost_ret ?_ rfl ⟨mH i,D.o⟩
  simp[results,Tryz.results17,go_sem, *]
 |some rest=>
  obtain rfl:=q rest rfl;replace q1:w4.cell? ⟨w.heap.size+1,1,none⟩=some (.bool false):=q1
  by_cases s:rest=[]
  ·subst s
   obtain rfl:rn=0:=p;clear m q;have d:=qx0 a3 4 c3 S nx sq lg w4 kV.o.rd (by omega) kX.o;rw[Gx.o]at d;obtain⟨E,hE⟩:=ak (dw (L4,nx,sq,lg));rw[<-hE]at d;have mM:=ag hE;clear hE;have e4:=f.symm;clear f;go_wp2_with fail
   refine d.mono ?_
   rintro e w5⟨rfl,b5⟩;have am:=ag (EI.o.a b5);have uK:=ag (EP.o.a b5);have fK:=ag (fG.o.trans (b5.mono fG.o.size));have zM:=ag (kV.o.a b5);clear d e4 b5 v0 v1 v2 v3 q0 q1 EI EP fG kV EO;have N:=qri HN.o (V:=(L4,nx,sq,lg)) (r:=[]) O.o.symm;by_cases h0:E=0
   ·subst h0
    have i:=ag (show dx b=0∧eD b=(L4,nx,sq,lg)by
     have e:dx b=0:=by
      unfold dx;rw[if_neg (by have:=HN.o;omega),if_pos];rw[<-O.o];exact⟨rfl,mM.o.symm⟩
     exact⟨e,by unfold eD;rw[if_pos e,<-O.o]⟩)
    clear N;obtain⟨v0,v1,v2,v3⟩:=am.o.cells;obtain⟨w9,k,D,u,F,G,H,I,J,K,L,M,Q,R,T,U⟩:=CZ uK fK aL (.slice a3 4 c3) nx sq lg;have iU:=ag (zM.o.keepV u);go_wp2;try rw[k]
    clear F G H I J K L M k u;refine bodyPost_ret (v:=.tuple #[.agg #[.slice a3 4 c3,.int .i64 nx,.int .i64 sq,.string (bs lg)],.int .i64 0]) ?_ rfl ⟨by rw[i.o.1,i.o.2];exact⟨_,S,rfl,iU.o,Gx.o⟩,D.o⟩
    simp[results,Tryz.results17,go_sem, *]
   have aq:(E !=0)=true:=Xe1 h0;have M9:(E==0)=false:=Xe2 h0;have i:=ag (show dx b=8∧eD b=fo by
    have e:dx b=8:=by
     rw[N,if_neg];rintro⟨e9, -⟩;exact h0 (mM.o.trans e9)
    exact⟨e,by unfold eD;rw[e,if_neg (by decide)]⟩)
   clear N h0;obtain⟨w9,k,D,u,F,G,H,I,J,K,L,M,Q,R,T,U⟩:=yD uK fK aL;go_wp2;try rw[k]
   clear F G H I J K L M k u;refine bodyPost_ret ?_ rfl ⟨mH i,D.o⟩
   simp[results,Tryz.results17,go_sem, *]
  have ao:0<rn:=by
   rw[p];exact List.length_pos_iff.2 s
  have ap:(0:Int)<rn:=by omega
  have i:=ag (show dx b=8∧eD b=fo by
   have e:dx b=8:=by
    unfold dx;rw[if_neg (by have:=HN.o;omega),if_neg];rw[<-O.o];rintro⟨e9, -⟩;exact s (Option.some.inj e9)
   exact⟨e,by unfold eD;rw[e,if_neg (by decide)]⟩)
  clear m q s p;have e4:=f.symm;clear f;obtain⟨w9,k,D,u,F,G,H,I,J,K,L,M,Q,R,T,U⟩:=yD EP fG aL;go_wp2;try rw[k]
  clear F G H I J K L M k u;refine bodyPost_ret ?_ rfl ⟨mH i,D.o⟩
  simp[results,Tryz.results17,go_sem, *]
open Go.RowKit Go.Shelf
def Tryz.laysJ14_ren:Go.Shelf.Ren:=⟨fun|14=>107|15=>184|n=>n,fun|26=>89|22=>23|3=>3|4=>4|0=>0|9=>9|20=>20|5=>5|n=>n,fun|n=>n⟩
theorem Tryz.laysJ14:Go.Proofs.SlLaysJ.n14 Tryz.prog Tryz.laysJ14_ren:={
 mixed:=by kernel_rfl
 f14:=Tryz.func107.trans (congrArg some (by kernel_rfl))
 f15:=Tryz.func184.trans (congrArg some (by kernel_rfl))
 t0:=Tryz.underlying0
 a0:=Tryz.isAgg0
 z0:=Tryz.sizeOf0
 v0:=Tryz.zeroValue0
 t3:=Tryz.underlying3
 a3:=Tryz.isAgg3
 z3:=Tryz.sizeOf3
 v3:=Tryz.zeroValue3
 t4:=Tryz.underlying4
 a4:=Tryz.isAgg4
 z4:=Tryz.sizeOf4
 v4:=Tryz.zeroValue4
 t9:=Tryz.underlying9
 a9:=Tryz.isAgg9
 z9:=Tryz.sizeOf9
 v9:=Tryz.zeroValue9
 t20:=Tryz.underlying20
 a20:=Tryz.isAgg20
 z20:=Tryz.sizeOf20
 v20:=Tryz.zeroValue20
 t22:=Tryz.underlying23
 a22:=Tryz.isAgg23
 z22:=Tryz.sizeOf23
 v22:=Tryz.zeroValue23
 t26:=Tryz.underlying89
 a26:=Tryz.isAgg89
 z26:=Tryz.sizeOf89
 v26:=Tryz.zeroValue89
 t5:=Tryz.underlying5
 z5:=Tryz.sizeOf5
 i5:=by kernel_rfl}
theorem qx3{B:Nat}(h:Lib.FreshBytes B w v l):Rd w v l:=by
 obtain⟨g,cap,a,rfl,_,e,f,p,i,k,m,_⟩:=h;by_cases n:l=[]
 ·subst n
  exact .inl ⟨rfl,.inr ⟨_,_,rfl⟩⟩
 refine .inr ⟨g,0,cap,rfl,e,f,fun j c=>?_⟩;have e1:=m j (by omega);have b:j<a.length:=by omega
 have d:l[j]? =some (UInt8.ofNat (a[j]).toNat):=by
  rw[<-k];unfold Lib.bytesOf;rw[List.getElem?_map,List.getElem?_take,if_pos c,List.getElem?_eq_getElem b];rfl
 rw[List.getElem?_eq_getElem c]at d;have o:=Option.some.inj d;have q:=i (a[j]) (Xa3 b);rw[Nat.zero_add,e1,List.getD_eq_getElem?_getD,List.getElem?_eq_getElem b,o,UInt8.toNat_ofNat'];show some (Value.int .u8 (a[j]))=_
 congr 2
 omega
theorem qmr{y:aA}{z:Nat}(h:Rd w (.slice y l.length z) l):Lib.HoldsBytes w (.slice y l.length z) l:=by
 refine⟨y,z,rfl, ?_, ?_⟩
 ·rintro rfl
  rcases h with⟨e,_⟩|⟨_,_,_,e,_⟩
  ·exact e
  cases e
 rintro a rfl i x d;rcases h with⟨e,_⟩|⟨b,f,c,e,_,_,g⟩
 ·subst e;simp at d
 cases e;obtain⟨hi,j⟩:=List.getElem?_eq_some_iff.1 d;have:=g i hi
 rw[Lib.add_plain2,this,j]
theorem qahr{b o c:Nat}{L:List (az)}(h:ML w (.slice (some ⟨b,o,none⟩) L.length c) L):∃m,Lib.PartsAt w ⟨b,o,none⟩ m L:=by
 have g:∀j (hj:j<L.length),∃v,w.cell? ⟨b,o+j,none⟩=some v∧Lib.HoldsBytes w v (L[j]):=by
  intro j hj;obtain⟨p,k,y,z,e,d,f⟩:=ML.at h j hj;cases e;exact⟨_,d,qmr f⟩
 refine⟨(List.range L.length).map fun j=>(w.cell? ⟨b,o+j,none⟩).getD (.bool false),by simp, ?_, ?_⟩
 ·intro i v hv
  obtain⟨hi,e⟩:=List.getElem?_eq_some_iff.1 hv;have a:i<L.length:=by simpa using hi
  obtain⟨u,d,_⟩:=g i a;rw[List.getElem_map,List.getElem_range,d]at e;rw[Lib.add_plain2,d,<-e];rfl
 intro i v l hv hl;obtain⟨hi,e⟩:=List.getElem?_eq_some_iff.1 hv;obtain⟨a,n⟩:=List.getElem?_eq_some_iff.1 hl;obtain⟨u,d,f⟩:=g i a;rw[List.getElem_map,List.getElem_range,d]at e;rw[<-e,<-n];exact f
theorem qad3:∀(L:List (az)),Lib.join L []=L.flatten
 |[]=>rfl
 |x::r=>by
  rw[Lib.join_cons,List.flatten_cons];unfold Lib.joinTail;congr 1
  rw[show(fun y:az=>[]++y)=id from funext fun y=>List.nil_append y,List.map_id]
theorem qad4(L:List (az)):Lib.lens L=L.flatten.length:=by
 unfold Lib.lens;rw[List.length_flatten]
theorem Xl(a:aA)(n c:Nat)(L:List (az))(w:World)(f:ML w (.slice a n c) L)(t:n=L.length)(i:1<=n)(u:n<=1000000)(hl:L.flatten.length<=100000000):
  Calls Tryz.prog 107 #[.slice a n c,.slice none 0 0] w fun e w'=>∃v,e=.returned v∧Rd w' v L.flatten∧ah w w':=by
 subst t;obtain⟨b,g,y,z,e,d,j⟩:=ML.at f 0 (by omega);subst e;have k:L.length<=c:=by
  rcases f with⟨e,_⟩|⟨_,_,_,e,h,_⟩
  ·rw[e]at i;simp at i
  cases e;exact h
 by_cases h:2<=L.length
 ·obtain⟨A,m⟩:=qahr f
  refine(Any.bytes_Join_many Tryz.laysJ14 b g L.length c A L (.slice none 0 0) [] w rfl h m k ⟨none,0,rfl,fun _=>rfl,fun a e=>by cases e⟩ (by omega) (by rw[qad4];simp only[List.length_nil,Nat.zero_mul];omega)).mono ?_
  rintro e w'⟨v,rfl,l,o⟩;rw[qad3]at l;exact⟨v,rfl,qx3 l,o⟩
 obtain⟨x,rfl⟩:∃x,L=[x]:=by
  match L,i,h with
  |[x],_,_=>exact⟨x,rfl⟩
  |[],i,_=>simp at i
  |_::_::_,_,h=>simp at h
 rw[Nat.add_zero]at d;have B:([x]:List (az))[0]=x:=rfl;simp only[B]at d j;have q:[x].flatten=x:=by simp
 rw[q]at hl⊢;by_cases r:x=[]
 ·subst r
  refine(Any.bytes_Join_one_empty Tryz.laysJ14 b g c y z (.slice none 0 0) w d).mono ?_
  rintro e w'⟨rfl,rfl⟩;exact⟨_,rfl,.inl ⟨rfl,.inl rfl⟩,aF⟩
 obtain⟨p,cap,C,D,s⟩:=qmr j
 cases C;cases y with
 |none=>exact absurd (D rfl) r
 |some ad=>
  refine(Any.bytes_Join_one Tryz.laysJ14 b g c ad z x (.slice none 0 0) w d (s ad rfl) (List.length_pos_iff.2 r) (by omega)).mono ?_
  rintro e w'⟨v,rfl,l,o⟩;exact⟨v,rfl,qx3 l,o⟩
theorem RN(a b:Value)(l m:az)(w:World)(h:Rd w a l)(k:Rd w b m):
  Calls Tryz.prog 106 #[a,b] w fun e w'=>e=.returned (.bool (decide (l=m)))∧w'=w:=qrt _ _ _ _ _ h k
theorem qjn(w:World)(e:TypeId)(s:ByteArray):ah w (Lib.bytesWorld w e s):=
 ⟨rfl,rfl,rfl,by rw[Lib.bytesWorld_size];omega,fun k a=>Lib.bytesWorld_at_old w e s k a⟩
theorem I7(s:az)(w:World)(g:s.length<=1000000):
  ∃a c w',(convert 9 23 (.string (bs s))).run Tryz.prog w=.ok (.slice a s.length c) w'∧Rd w' (.slice a s.length c) s∧ah w w':=by
 have b:=Lib.run_convert_string_bytes (P:=Tryz.prog) w 9 23 5 (bs s) Tryz.underlying9 Tryz.underlying23 Tryz.underlying5;have e:=grownCap_ge w (bs s).size 0 5;have d:=grownCap_le_maxLen w (bs s).size 0 5 (by rw[rf];unfold maxLen;omega);rw[rf]at b e d;refine⟨_,_,_,b,.inr ⟨w.heap.size,0,_,rfl,by omega,d,fun j f=>?_⟩,qjn w 5 (bs s)⟩;rw[Nat.zero_add,Lib.bytesWorld_cell w 5 (bs s) j (by rw[rf];exact f),zk];simp[List.getD,List.getElem?_eq_getElem f]
theorem qj8{P:Program}{b:Array Oper}{rest:List Oper}{o:Oper}{a:Act}{Q:Exit->Act->World->Prop}(d:o.guard=none)(x:Operand)(t u:TypeId)
  (e:o.op=.convert t u x) {v v':Value} (f:a.eval x=v) (c:(convert t u v).run P w=.ok v' w') (h:wpList P b Q rest (a.put o.dst v') w'):wpList P b Q (o::rest) a w:=by
 refine wpList_plain d fun K g=>?_
 unfold Oper.wp execOp;simp only[e,f,Sem.run_bind,c,Result.andThen_ok,Sem.run_pure];exact g _ _ h
theorem Xf{s:az}(b:s.length<=16384)(a:¬dx s=0):dx s=8:=by
 unfold dx at *;rw[if_neg (by omega)]at *;split
 ·rename_i h;rw[if_pos h]at a;exact absurd rfl a
 rfl
theorem qalo(a:aA)(n c:Nat)(b:az)(w:World)(y:Rd w (.slice a n c) b)(hn:n=b.length)(hl:b.length<=16384):
  Calls Tryz.prog 48 #[.slice a n c] w fun e w'=>vL w.heap.size (lq b) (lm b) e w'∧ah w w':=by
 obtain⟨C,f⟩:∃C,C=w.alloc (.cells #[.slice none 0 0,.int .i64 0,.int .i64 0,.string {data:=#[]}] 36):=⟨_,rfl⟩
 have z:ah w C:=by rw[f];exact ae
 have j:=ag (show aQ C w.heap.size (.slice none 0 0) 0 0 []by rw[f];exact aQ.new w _ 0 0 []);have g:=ag z;have Z:=ag y;have sS:=ag hl;cases hct:ct b with
 |none=>
  have d:=qmn a n c b C (by omega) (Z.o.a g.o) hct;have D:=ag (And.intro (EN hct) (qml hct));clear z y hn hct hl;go_enter Tryz.func48,Tryz.ntmps48;go_wp2_with fail
  rw[<-f];refine d.mono ?_
  rintro e w2⟨a2,n2,c2,rfl,A⟩;have k:=ag (j.o.a A);have l:=ag (g.o.trans (A.mono g.o.size));clear d A j f;obtain⟨w9,q,F,E,G,H,I,J,K,L,M,N,z0,z1,z2,z3⟩:=yD k l aL;go_wp2;try rw[q]
  clear G H I J K L M N q E;refine bodyPost_ret ?_ rfl ⟨mH D,F.o⟩
  simp[results,Tryz.results48,go_sem, *]
 |some p=>
  obtain⟨s,r⟩:=p;have O:s.length<=16384:=by
   have h9:=P6 hct;have h8:=congrArg List.length h9;unfold tx at h8;rw[Xa0,Xa0]at h8;omega
  have B:=ag O;have t:=ag (And.intro (VN hct) (VO hct));have d:=qmm a n c b s r C (by omega) (Z.o.a g.o) hct;clear z y hn hct hl;go_enter Tryz.func48,Tryz.ntmps48;go_wp2_with fail
  rw[<-f];refine d.mono ?_
  rintro e w2⟨a2,c2,rfl,o2,A⟩;have k:=ag (j.o.a A);have l:=ag (g.o.trans (A.mono g.o.size));clear d A j f o2;have d:=MO s w2 (by have:=B.o;omega);go_wp2_with fail
  refine d.mono ?_
  rintro e w3⟨v3,rfl,o3,b3⟩;have P:=ag (k.o.a b3);have Q:=ag (l.o.trans (b3.mono l.o.size));obtain⟨a3,c3,e3⟩:=o3.form;obtain⟨m3,qV⟩:=ak ((tx s).length);rw[<-qV]at e3;subst e3;have m:(tx s).length<=16394:=by have:=nM s (by omega);omega
  have d:=qtc a3 m3 c3 (tx s) w3 o3.rd qV (by omega);have xV:=ag m;clear o3 b3 k O qV m;go_wp2_with fail
  refine d.mono ?_
  rintro e w4⟨v4,rfl,o4,b4⟩;have EP:=ag (P.o.a b4);have fG:=ag (Q.o.trans (b4.mono Q.o.size));obtain⟨a4,c4,e4⟩:=o4.form;obtain⟨m4,xJ⟩:=ak ((di (tx s)).length);rw[<-xJ]at e4;subst e4;have aa:=Gb (tx s);have ab:=qak4 (tx s).length;have m:=xV.o;have ac:dX (tx s).length<=1000:=by unfold dX;omega
  have d:=Xl a4 m4 c4 (di (tx s)) w4 o4.rdL xJ (by omega) (by omega) (by rw[qs8,VM];omega);rw[qs8]at d;clear o4 b4 P m aa ab ac xJ;go_wp2_with fail
  refine d.mono ?_
  rintro e w5⟨v5,rfl,o5,b5⟩;have uK:=ag (EP.o.a b5);have W:=ag (fG.o.trans (b5.mono fG.o.size));have d:=RN (.slice a n c) v5 b (jc (tx s)) w5 (Z.o.a W.o) o5;clear o5 b5 EP;go_wp2_with fail
  refine d.mono ?_
  rintro e w6⟨rfl,Gy⟩;have R:=Gy.symm;subst R;clear d;by_cases i:b=jc (tx s)
  ·rw[Xd8 i]
   obtain⟨a7,c7,w7,T,r7,b7⟩:=I7 s w5 (by have:=B.o;omega);have C9:=ag (uK.o.a b7);have Bz:=ag (W.o.trans (b7.mono W.o.size));have d:=qalm a7 s.length c7 s w7 r7 rfl;obtain⟨RE,X⟩:=ak (dx s);obtain⟨⟨L4,nx,sq,lg⟩,Y⟩:=ak (eD s);rw[<-X,<-Y]at d;have D:=ag (show lm b=RE∧lq b=(L4,nx,sq,lg)by
    by_cases U:dx s=0
    ·have u:=t.o.1
     have x:=t.o.2;rw[if_pos ⟨i,U⟩]at u x;exact⟨by rw[u,X,U],by rw[x,Y]⟩
    have u:=t.o.1;have x:=t.o.2;rw[if_neg (fun h=>U h.2)]at u x;exact⟨by rw[u,X,Xf (by have:=B.o;omega) U],by rw[x,Y];unfold eD;rw[if_neg U]⟩)
   clear uK b7 r7 X Y t i;go_wp2_with (refine qj8 rfl (.tmp 25) 9 23 rfl rfl T ?_)
   refine d.mono ?_
   rintro e w8⟨⟨v8,S,rfl,ho,V⟩,b8⟩;have AY:=ag (C9.o.a b8);have tL:=ag (Bz.o.trans (b8.mono Bz.o.size));obtain⟨a8,c8,e8⟩:=cO.form ho.1;obtain⟨n8,iw⟩:=ak S.length;rw[<-iw]at e8;subst e8;have ad:=ag ho;have Gx:=ag V;clear d T b8 ho V C9 iw;obtain⟨w9,q,F,E,G,H,I,J,K,L,M,N,z0,z1,z2,z3⟩:=CZ AY tL aL (.slice a8 n8 c8) nx sq lg;have iU:=ag ((ad.o.mono (show w.heap.size<=w7.heap.size from Bz.o.size)).keepV E);go_wp2;try rw[q]
   clear G H I J K L M N q E;refine bodyPost_ret (v:=.tuple #[.agg #[.slice a8 n8 c8,.int .i64 nx,.int .i64 sq,.string (bs lg)],.int .i64 RE]) ?_ rfl ⟨by rw[D.o.1,D.o.2];exact⟨_,S,rfl,iU.o,Gx.o⟩,F.o⟩
   simp[results,Tryz.results48,go_sem, *]
  rw[Xd7 i]
  have D:=ag (show lm b=8∧lq b=fo by
   have u:=t.o.1;have x:=t.o.2;rw[if_neg (fun h=>i h.1)]at u x;exact⟨u,x⟩)
  clear t i;obtain⟨w9,q,F,E,G,H,I,J,K,L,M,N,z0,z1,z2,z3⟩:=yD uK W aL;go_wp2;try rw[q]
  clear G H I J K L M N q E;refine bodyPost_ret ?_ rfl ⟨mH D,F.o⟩
  simp[results,Tryz.results48,go_sem, *]
theorem Np(n:Nat)(w:World)(l:n<=100000000):∃b,(Instr.makeSlice 23 (.int .i64 n) (.int .i64 n)).run Tryz.prog w=.ok (.slice (some ⟨w.heap.size,0,none⟩) n n) b∧bG b w.heap.size (.slice (some ⟨w.heap.size,0,none⟩) n n) (List.replicate n 0)∧ah w b:=by
 obtain⟨h,hi,c,d,f⟩:=info_parts Tryz.infoB;obtain⟨b,i,a,g⟩:=run_make_full (P:=Tryz.prog) w w.heap.size 23 5 h _ 1 Tryz.underlying23 hi c d .i64 .i64 n (by rw[f];omega) (by unfold maxLen;omega) aL;refine⟨b,i, ?_,aF.grown g aL (fun k j=>by cases j)⟩;show b.ownsRow _ _ _ _ _ _
 rw[Xc1];have e:(madeCells (Value.int IntKind.u8 0).cells (n*1)).toList=bO (List.replicate n 0):=by
  show(madeCells #[Value.int .u8 0] (n*1)).toList=_
  rw[toList_madeCells_one];simp[bO]
 rw[<-e];exact a
theorem Bq.oth9{p q:Nat}{t:TypeId}{cs:Array Value}(h:Bq w p t cs)(b:w.grownBy w' (some q))(a:p≠q):Bq w' p t cs:=
 (b.block p (Xd6.1 h).1 (fun e=>a (Option.some.inj e))).trans h
theorem qx4(x:aU)(f:aR)(s:az)(n:Int)(w:World)(h:iJ w x f)(hw:jq f)(aa:-9223372036854775808<=n)(ab:n<=9223372036854775807):
  Calls Tryz.prog 14 #[x.val,.string (bs s),.int .i64 n] w fun e w'=>∃v,e=.returned (.tuple #[v,.int .i64 (nU f s n)])∧bG w' w.heap.size v (tV f s n)∧ah w w':=by
 have HW:=ag hw;clear hw;obtain⟨w1,Y⟩:=au (w.alloc (.cells x.cs 33));have M:ah w w1:=by rw[<-Y];exact ae
 have fD:=ag (show bB w1 w.heap.size x by rw[<-Y];exact Bq.new _ _ _);obtain⟨k0,k1,k2,k3,k4,k5⟩:=bq fD.o;have HX:=ag h;have bg:=ag M;clear h M;unfold aU.val;unfold aU.cs at Y;go_enter Tryz.func14,Tryz.ntmps14;go_wp2_with fail
 refine(Vd x f s w1 (HX.o.a bg.o) HW.o).mono ?_
 rintro e w2⟨rfl,y⟩;have jZ:=ag (fD.o.a y);have Z:=bT bg y;clear k0 k1 k2 k3 k4 k5 Y y;by_cases d:dB f s=0
 ·have HG:=ag d
  obtain⟨m,hm⟩:=ak ((fM f s).length);have xJ:m<=4096:=by rw[hm];exact VK f s
  have N:=ag hm;rw[d,jA d,<-hm];clear d hm;have Xg:=ag (show wrap64 ((m:Int)*128)=(m:Int)*128 by unfold wrap64;omega);by_cases a:n<0∨(128*(fM f s).length:Int)<n
  ·have g:=ag (VT HG.o a)
   have A:n<0∨(decide (n<0)=false∧(m:Int)*128<n):=by
    rcases a with h|h
    ·exact .inl h
    by_cases K:n<0
    ·exact .inl K
    exact .inr ⟨Xd7 K,by have:=N.o;omega⟩
   clear a;have p:=Xg.o;rcases A with K|⟨K,h1⟩
   all_goals
    go_wp2;go_ret2;exact⟨_,by rw[g.o.1];rfl,by rw[g.o.2];exact Xa7 _ _ _ _,Z.o⟩
  obtain⟨q,rfl⟩:∃q:Nat,n=q:=⟨n.toNat,by omega⟩
  have hq:q<=128*m:=by have:=N.o;omega
  have g:=ag (MN (n:=q) HG.o (by rw[<-N.o];exact hq));have HQ:=ag hq;have K:decide ((q:Int)<0)=false:=Xd7 (by omega);have h1:decide ((m:Int)*128<q)=false:=Xd7 (by omega);have h2:¬(m:Int)*128<q:=by omega
  have O:=QM f s;obtain⟨L,hL⟩:=ak ((fM f s).flatten);have HL:=ag hL;have kX:=ag (show L.length=128*m by rw[hL,O,N.o]);obtain⟨w3,P,Q,B⟩:=Np q w2 (by omega);have yo:=ag (jZ.o.a B);have df:=ag (Z.o.trans (B.mono Z.o.size));have Gz:=ag Q;obtain⟨G,hG⟩:=ak w2.heap.size;rw[<-hG]at P Gz;have R:=ag (show w.heap.size<G by rw[hG];have:=jZ.o.lt;omega);have QR:=ag (show w.heap.size<=G by have:=R.o;omega);clear a hq O hL Q B hG aa ab;have p:=Xg.o;go_wp2;clear P K h1 h2 p;go_loopw [11,12] (fun i ac wr=>∃k u:Nat,u=min q (128*k)∧(128*k<q+128)∧i=.int .i64 k∧ac=.int .i64 u∧af (bG wr G (.slice (some ⟨G,0,none⟩) q q) (nW L q k))∧af (bB wr w.heap.size x)∧af (ah w wr)) (fun i _ _=>m+1-(intOf i).toNat)
  case atStart=>exact⟨0,0,by omega,by omega,rfl,rfl,ag (by rw[qac8];exact Gz.o),yo,df⟩
  clear yo df Gz;obtain⟨k,u,hu,hk,rfl,rfl,b,hF,S⟩:=hrel;by_cases C:u<q
  ·have r:(u:Int)<q:=by omega
   obtain rfl:u=128*k:=by omega
   have uU:k<m:=by have:=HQ.o;omega
   have D:k<(fM f s).length:=by rw[<-N.o];exact uU
   have ad:=ag uU;have E:=ag (qxq HG.o D);have T:=ag (qzf D);obtain⟨k0,k1,k2,k3,k4,k5⟩:=bq hF.o;clear hu;go_wp2_with fail
   refine(LV x f s k wr (HX.o.a S.o) HW.o).mono ?_
   rintro e w4⟨v4,rfl,fC,j⟩;obtain⟨bk,F⟩:=ak ((fM f s)[k]);rw[E.o.2,<-F]at fC;rw[E.o.1];have H:bk=(L.drop (128*k)).take 128:=by rw[F,T.o,HL.o]
   have H8:=ag (bG.rd fC);obtain⟨y4,z4,rfl⟩:=fC.form;have I:=b.o.a j;have kV:=ag I;have ai:=ag (show(nW L q k).length=q from PP (by rw[kX.o];exact HQ.o) k);have aj:=ag (hF.o.a j);have fG:=ag (S.o.trans (j.mono S.o.size));have al:=(World.ownsRow.lt I G rfl).2;have QB:=ag (show splice (nW L q k) (128*k) (bk.take (q-128*k))=nW L q (k+1)by
    rw[H];exact qac9 (by rw[kX.o];exact HQ.o) C (by rw[kX.o];omega))
   obtain⟨t,ht⟩:=ak ((bk.take (q-128*k)).length);have U:t=min (q-128*k) 128:=by
    have h8:=kX.o;rw[ht,H,Xa4,Xa4,Xa9];omega
   have HT:=ag ht.symm;have am:=ag U;have y1:128*k<=q:=by omega
   have y2:¬128*k=q:=by omega
   have ao:k<=5000:=by omega
   have V:128*k+t<=1000000:=by omega
   obtain⟨l,J⟩:=ak (128*k);have c:=ag J;rw[<-J]at C r y1 y2 V⊢;clear k0 k1 k2 k3 k4 k5 F H fC j I b hF S ht U al E T D uU J;go_wp2_with (refine qgf w4 rfl (.tmp 52) (.tmp 53) 23 rfl Tryz.underlying23 Tryz.sizeB G G q q l (q-l) (q-l) rfl _ bk rfl H8.o _ kV.o (by rw[ai.o];omega) ?_;intro w5 W Qh;rw[c.o,QB.o]at Qh;have zM:=ag Qh;have X:=ag W;clear W Qh;rw[c.o,HT.o,<-c.o])
   go_roundw
   case rel=>exact⟨k+1,l+t,by have:=c.o;have:=am.o;omega,by have:=c.o;omega,by go_num,by go_num,zM,ag (aj.o.oth9 X.o (by have:=R.o;omega)),ag (fG.o.grown X.o fG.o.size (by intro k hk;cases hk;exact QR.o))⟩
   clear C r y1 y2 hk V;have h1:=ad.o;simp only[intOf];omega
  have hd:decide ((u:Int)<q)=false:=Xd7 (by omega);have an:q<=128*k:=by omega
  have HO:=ag (show bG wr G (.slice (some ⟨G,0,none⟩) q q) (L.take q)by
   have:=b.o
   rwa [qag0 an]at this)
  clear b hu;go_wp2;go_ret2;exact⟨_,by rw[g.o.1];rfl,by rw[g.o.2,<-HL.o];exact HO.o.mono QR.o,S.o⟩
 have g:=ag (VS (n:=n) d);obtain⟨z,hz⟩:=ak (uT f s);obtain⟨e,he⟩:=ak (dB f s);rw[<-he]at d g⊢;rw[<-hz];have ge:(e==0)=false:=Xe2 d
 have gn:(e !=0)=true:=Xe1 d;clear hz he d;go_wp2;go_ret2;exact⟨_,by rw[g.o.1];rfl,by rw[g.o.2];exact Xa7 _ _ _ _,Z.o⟩
theorem Xh(h:¬dB f eO=0):nz f=dB f eO∧kF f=fo:=⟨by unfold nz;rw[if_pos h],by unfold kF;rw[if_pos h]⟩
theorem xK(h:dB f eO=0):nz f=lm (fM f eO).flatten∧kF f=lq (fM f eO).flatten:=⟨by unfold nz;rw[if_neg (fun e=>e h)],by unfold kF;rw[if_neg (fun e=>e h)]⟩
theorem qalp(x:aU)(f:aR)(w:World)(h:iJ w x f)(hw:jq f):
  Calls Tryz.prog 16 #[x.val] w fun e w'=>vL w.heap.size (kF f) (nz f) e w'∧ah w w':=by
 have HX:=ag h;have HW:=ag hw;have q0:ah w (w.alloc (.cells x.cs 33)):=ae;have r:(w.alloc (.cells x.cs 33)).heap.size=w.heap.size+1:=by simp
 obtain⟨i,s⟩:∃i,(w.alloc (.cells x.cs 33)).alloc (.cells #[.slice none 0 0,.int .i64 0,.int .i64 0,.string {data:=#[]}] 36)=i:=⟨_,rfl⟩
 have P:Below (w.alloc (.cells x.cs 33)).heap.size (w.alloc (.cells x.cs 33)) i:=by rw[<-s];exact ae
 have fD:=ag (show bB i w.heap.size x from(Bq.new w 33 x.cs).a P);have Nq:=ag (show aQ i (w.heap.size+1) (.slice none 0 0) 0 0 []by rw[<-s,<-r];exact aQ.new _ _ 0 0 []);have Q:=ag (show ah w i from q0.trans (P.mono (by omega)));obtain⟨R,T,U,V,W,X⟩:=bq fD.o;have a:=Vd x f eO i (HX.o.a Q.o) HW.o;rw[show bs eO={data:=#[99,117,114,114,101,110,116]}from rfl]at a;clear h hw q0 P r;unfold aU.val;unfold aU.cs at s;go_enter Tryz.func16,Tryz.ntmps16;go_wp2_with fail
 try rw[s]
 refine a.mono ?_
 rintro e w2⟨rfl,b⟩;have jZ:=ag (fD.o.a b);have Y:=ag (Nq.o.a b);have t:=ag (Q.o.trans (b.mono Q.o.size));clear R T U V W X s b a;by_cases c:dB f eO=0
 case neg=>
  have j:=ag (Xh c);obtain⟨z,hz⟩:=ak (uT f eO);obtain⟨E,he⟩:=ak (dB f eO);rw[<-he]at c j⊢;rw[<-hz];have ge:(E==0)=false:=Xe2 c
  have gn:(E !=0)=true:=Xe1 c;clear hz he c;obtain⟨w9,g,u,q,y,A,C,D,F,G,H,I,z0,z1,z2,z3⟩:=yD Y t (Nat.le_succ _);go_wp2;try rw[g]
  clear y A C D F G H I g q;refine bodyPost_ret ?_ rfl ⟨mH j,u.o⟩
  simp[results,Tryz.results16,go_sem, *]
 have M:=ag c;obtain⟨m,N⟩:=ak ((fM f eO).length);have xJ:m<=4096:=by rw[N];exact VK f eO
 have HM:=ag N;have J:=QM f eO;have Z:=ag (show(fM f eO).flatten.length=128*m by rw[J,HM.o]);rw[c,jA c,<-N];clear c N J;by_cases g2:128<m
 ·have g3:(128:Int)<m:=by omega
  have j:=ag (show nz f=8∧kF f=fo by
   rw[(xK M.o).1,(xK M.o).2];exact XF (by rw[Z.o];omega))
  obtain⟨w9,g,u,q,y,A,C,D,F,G,H,I,z0,z1,z2,z3⟩:=yD Y t (Nat.le_succ _);go_wp2;try rw[g]
  clear y A C D F G H I g q;refine bodyPost_ret ?_ rfl ⟨mH j,u.o⟩
  simp[results,Tryz.results16,go_sem, *]
 have g3:decide ((128:Int)<m)=false:=Xd7 (by omega);have g4:decide (128<m)=false:=Xd7 g2;have k:=MN (n:=m*128) M.o (by rw[<-HM.o];omega);have a:=qx4 x f eO ((m*128:Nat):Int) w2 (HX.o.a t.o) HW.o (by omega) (by omega);rw[k.1,k.2,Xa1 (by rw[Z.o];omega)]at a;have yH:=ag (show m<=128 by omega);have K:wrap64 ((m:Int)*128)=((m*128:Nat):Int):=by unfold wrap64;omega
 rw[show bs eO={data:=#[99,117,114,114,101,110,116]}from rfl]at a;obtain⟨R,T,U,V,W,X⟩:=bq jZ.o;clear g2 k xJ;go_wp2_with fail
 clear K R T U V W X g3 g4;refine a.mono ?_
 rintro e w3⟨v3,rfl,d,l⟩;have Xi:=ag (Y.o.a l);have df:=ag (t.o.trans (l.mono t.o.size));obtain⟨B,O⟩:=ak ((fM f eO).flatten);rw[<-O]at d;have qU:=ag (show B.length<=16384 by rw[O,Z.o];have:=yH.o;omega);have I8:=ag (xK M.o);rw[<-O]at I8;have Xj:=bG.rd d;obtain⟨a3,c3,e3⟩:=d.form;obtain⟨n3,oh⟩:=ak B.length;rw[<-oh]at e3;subst e3;obtain⟨RE,yI⟩:=ak (lm B);obtain⟨⟨L4,nx,sq,lg⟩,Dr⟩:=ak (lq B);have a:=qalo a3 n3 c3 B w3 Xj oh qU.o;rw[<-yI,<-Dr]at a;have j:=ag (show nz f=RE∧kF f=(L4,nx,sq,lg)from⟨by rw[I8.o.1,yI],by rw[I8.o.2,Dr]⟩);clear d l O Xj oh yI Dr;go_wp2_with fail
 refine a.mono ?_
 rintro e w4⟨⟨v8,S,rfl,ho,L⟩,p⟩;have Ns:=ag (Xi.o.a p);have gY:=ag (df.o.trans (p.mono df.o.size));obtain⟨a8,c8,e8⟩:=cO.form ho.1;obtain⟨n8,iw⟩:=ak S.length;rw[<-iw]at e8;subst e8;have aa:=ag (ho.mono df.o.size);have Gx:=ag L;clear a p ho L iw;obtain⟨w9,g,u,q,y,A,C,D,F,G,H,I,z0,z1,z2,z3⟩:=CZ Ns gY (Nat.le_succ _) (.slice a8 n8 c8) nx sq lg;have iU:=ag (aa.o.keepV q);go_wp2;try rw[g]
 clear y A C D F G H I g q;refine bodyPost_ret (v:=.tuple #[.agg #[.slice a8 n8 c8,.int .i64 nx,.int .i64 sq,.string (bs lg)],.int .i64 RE]) ?_ rfl ⟨by rw[j.o.1,j.o.2];exact⟨_,S,rfl,iU.o,Gx.o⟩,u.o⟩
 simp[results,Tryz.results16,go_sem, *]
theorem bH.rdx{base:Nat}{x:aU}(h:bH w base x.val f):iJ w x f:=by
 obtain⟨c,a,b⟩:=h.form;have e:c=x:=aU.ext_val a.symm;subst e;exact b
theorem Tryz.fieldsMv:(Tryz.prog.fieldsOf 124).toList.map (fun f=>(f.type,f.offset,f.name== "_"))=[(9,0,false),(3,1,false),(3,2,false),(9,3,false),(9,4,false)]:=by kernel_rfl
theorem qqx(w:World)(p q:dn):(Op.equalIn 10000 124 (.agg #[.string (bs p.1),.int .i64 p.2.1,.int .i64 p.2.2.1,.string (bs (gG p)),.string (bs (gH p))]) (.agg #[.string (bs q.1),.int .i64 q.2.1,.int .i64 q.2.2.1,.string (bs (gG q)),.string (bs (gH q))])).run Tryz.prog w=.ok (decide (p=q)) w:=by
 rw[run_equalIn_struct w 9999 124 _ _ (by kernel_rfl) (by kernel_rfl)];have a:=Tryz.fieldsMv;generalize (Tryz.prog.fieldsOf 124).toList=fs at a;rcases fs with _|⟨h,_|⟨i,_|⟨j,_|⟨l,_|⟨n,_|⟨N,fs⟩⟩⟩⟩⟩⟩
 ·simp at a
 ·simp at a
 ·simp at a
 ·simp at a
 ·simp at a
 ·simp only[List.map_cons,List.map_nil,List.cons.injEq,Prod.mk.injEq,and_true]at a
  obtain⟨⟨o,r,s⟩,⟨t,x,n1⟩,⟨y,z,n2⟩,⟨A,B,n3⟩,⟨C,D,n4⟩⟩:=a;have b:h.name≠ "_":=by simpa using s
  have c:i.name≠ "_":=by simpa using n1
  have e:j.name≠ "_":=by simpa using n2
  have f:l.name≠ "_":=by simpa using n3
  have g:n.name≠ "_":=by simpa using n4
  simp only[Op.eqFields,b,c,e,f,g,ne_eq,not_false_eq_true,if_true,o,t,y,A,C,r,x,z,B,D];simp[go_sem];obtain⟨k,m,d,v,u⟩:=p;obtain⟨E,F,G,v',H⟩:=q;simp only[ByteArray.toList_eq,zk,Prod.mk.injEq,gG,gH];by_cases I:k=E<;>by_cases J:m=F<;>by_cases K:d=G<;>by_cases L:v=v'<;>by_cases M:u=H<;>simp[I,J,K,L,M]
 simp at a
theorem Xk(p q:dn)(a:World):(binOp .neq 124 (.agg #[.string (bs p.1),.int .i64 p.2.1,.int .i64 p.2.2.1,.string (bs (gG p)),.string (bs (gH p))]) (.agg #[.string (bs q.1),.int .i64 q.2.1,.int .i64 q.2.2.1,.string (bs (gG q)),.string (bs (gH q))])).run Tryz.prog a=.ok (.bool (!decide (p=q))) a:=by
 rw[run_neq_struct,qqx a p q];rfl
theorem R6(op:BinOp)(x y:Operand)(xs b:Array Value)(a:World):(eqGuard op 124 x y (.agg xs) (.agg b)).run Tryz.prog a=.ok () a:=run_eqGuard_agg a op 124 x y xs b (by kernel_rfl)
theorem Qm(a:aA)(n c:Nat)(l:List dn)(E:aA)(t F:Nat)(f:List dn)(w:World)(hl:l.length<=1000000)(h:pg w (.slice a n c) l)(y:pg w (.slice E t F) f):
  Calls Tryz.prog 68 #[.slice a n c,.slice E t F] w fun e w'=>e=.returned (.bool (decide (l=f)))∧ah w w':=by
 have x:=ag h.len;have m:=ag y.len;have L:=ag h;have z:=ag y;have M:=ag hl;clear h y hl;by_cases G:n=t
 ·subst G
  have N:n<=1000000:=by have:=x.o;have:=M.o;omega
  go_enter Tryz.func68,Tryz.ntmps68;go_wp2;go_loopw [5] (fun i wr=>∃k:Nat,k<=n∧i=.int .i64 k∧af (l.take k=f.take k)∧ah w wr) (fun i _=>n-(intOf i).toNat)
  case atStart=>exact⟨0,Xd5 _,rfl,ag rfl,aF⟩
  obtain⟨k,hk,rfl,u,d⟩:=hrel;by_cases O:k<n
  ·have H:(k:Int)<n:=by omega
   have r:k<l.length:=by have:=x.o;omega
   have g:k<f.length:=by have:=m.o;omega
   obtain⟨b,P,e1,Q,R,S,T,U⟩:=pg.cells L.o d k r;obtain⟨b',I,V,W,X,Y,Z,r4⟩:=pg.cells z.o d k g;subst e1 V;have A:=ag (show l[k]=f[k]->l.take (k+1)=f.take (k+1)from fun e=>by
    rw[Xa2 r,Xa2 g,u.o,e])
   have B:=ag (show ¬l[k]=f[k]->decide (l=f)=false from fun e=>by
    rw[Xd7];intro h;apply e;simp only[h])
   obtain⟨p,J⟩:∃p:dn,p=l[k]:=⟨_,rfl⟩;obtain⟨q,K⟩:∃q:dn,q=f[k]:=⟨_,rfl⟩;rw[<-J]at Q R S T U A B;rw[<-K]at W X Y Z r4 A B;clear J K r g;have aa:=R6
   by_cases s:p=q
   ·have v:∀j,(binOp .neq 124 (.agg #[.string (bs p.1),.int .i64 p.2.1,.int .i64 p.2.2.1,.string (bs (gG p)),.string (bs (gH p))]) (.agg #[.string (bs q.1),.int .i64 q.2.1,.int .i64 q.2.2.1,.string (bs (gG q)),.string (bs (gH q))])).run Tryz.prog j=.ok (.bool false) j:=fun j=>by
     rw[Xk p q j,Xd8 s];rfl
    have C:=ag (A.o s);clear s;go_wp2;go_quiet (fail)
    go_wp2;go_roundw
    case rel=>exact⟨k+1,by omega,by go_num,C,qgj d _⟩
    simp only[intOf];omega
   have v:∀j,(binOp .neq 124 (.agg #[.string (bs p.1),.int .i64 p.2.1,.int .i64 p.2.2.1,.string (bs (gG p)),.string (bs (gH p))]) (.agg #[.string (bs q.1),.int .i64 q.2.1,.int .i64 q.2.2.1,.string (bs (gG q)),.string (bs (gH q))])).run Tryz.prog j=.ok (.bool true) j:=fun j=>by
    rw[Xk p q j,Xd7 s];rfl
   have C:=ag (B.o s);clear s;go_wp2;go_quiet (fail)
   go_wp2;go_ret;exact⟨by rw[C.o];rfl,qgj d _⟩
  have s:decide ((k:Int)<n)=false:=aC (by omega);have D:=ag (show decide (l=f)=true by
   rw[decide_eq_true_iff];have:=u.o
   rwa [Xa1 (by have:=x.o;omega),Xa1 (by have:=m.o;omega)]at this)
  go_wp2;go_ret;exact⟨by rw[D.o];rfl,d⟩
 have ab:((n:Int)==(t:Int))=false:=by simpa using(by omega:¬(n:Int)=t)
 have D:=ag (show decide (l=f)=false by
  rw[Xd9];rintro rfl;exact G (by have:=x.o;have:=m.o;omega))
 go_enter Tryz.func68,Tryz.ntmps68;go_wp2;go_ret;exact⟨by rw[D.o];rfl,aF⟩
end Go.Proofs.YtmeaiocohalphaaGreatDoor
