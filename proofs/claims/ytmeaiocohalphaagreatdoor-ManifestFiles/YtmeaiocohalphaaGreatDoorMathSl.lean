/-
  Plain mathematics: where a superblock of the next gen is written, the latest one is that; where it is not, that of before.
-/
import Derived.Test.YtmeaiocohalphaaGreatDoorDDo
set_option maxHeartbeats 1000000
set_option maxRecDepth 100000
namespace Go.Proofs.YtmeaiocohalphaaGreatDoor
open Go.RowKit
set_option linter.all false
variable {w:World}{a base n:Nat}{v:Value}{d:Dk}{size:Int}
theorem qaj7(w:World)(s:Bool)(N:Int)(x:Value)(l:az)(h:Rd w x l):pJ (w.alloc (.cells #[.bool s,.int .i64 N,x] 206)) (.slice (some ⟨w.heap.size,0,none⟩) 1 1) [(s,N,l)]:=by
 refine .inr ⟨w.heap.size,0,1,rfl,Nat.le_refl _,by unfold maxLen;decide,fun j a=>?_⟩;obtain rfl:j=0:=by simpa using a
 exact⟨by simp,by simp,x,by simp,h.alloc _⟩
theorem kP.form(h:kP w base v d):∃a1 c1 a2 c2 a3 c3,v=.agg #[.slice a1 d.1.length c1,.slice a2 d.2.1.length c2,.slice a3 d.2.2.length c3]:=by
 obtain⟨a1,c1,a2,c2,a3,c3,e,_⟩:=h.rd.form;exact⟨a1,c1,a2,c2,a3,c3,e⟩
theorem SA(N:Int)(x:aA)(m c:Nat)(l:az)(w:World)(z:kN w v d)(q:Rd w (.slice x m c) l):
  Calls Tryz.prog 228 #[v,.int .i64 N,.slice x m c] w fun e w'=>∃dv,e=.returned (.tuple #[dv,.int .i64 (iR d [(false,N,l)] 1).2])∧kP w' w.heap.size dv (iR d [(false,N,l)] 1).1∧ah w w':=by
 obtain⟨a1,c1,a2,c2,a3,c3,rfl,_,_,_⟩:=z.form;have K:=ag z;clear z;have L:=ag q;clear q;obtain⟨a,f⟩:=au ((w.alloc (.cells #[.slice a1 d.1.length c1,.slice a2 d.2.1.length c2,.slice a3 d.2.2.length c3] 27)).alloc (.cells #[.slice none 0 0,.slice none 0 0,.slice none 0 0] 27));have g:ah w a:=by rw[<-f];exact(ae).alloc (by simp) _
 have M:a.cell? ⟨w.heap.size,0,none⟩=some (.slice a1 d.1.length c1):=by rw[<-f];simp
 have O:a.cell? ⟨w.heap.size,1,none⟩=some (.slice a2 d.2.1.length c2):=by rw[<-f];simp
 have P:a.cell? ⟨w.heap.size,2,none⟩=some (.slice a3 d.2.2.length c3):=by rw[<-f];simp
 have s:a.heap[w.heap.size+1]? =some (.cells #[.slice none 0 0,.slice none 0 0,.slice none 0 0] 27 (0,0)):=by rw[<-f];exact uN _ _ _
 have hs1:w.heap.size+2<=a.heap.size:=by rw[<-f];simp
 have hl:=qaj7 a false N (.slice x m c) l (L.o.a g);obtain⟨D,h⟩:=au (a.alloc (.cells #[.bool false,.int .i64 N,.slice x m c] 206));rw[h]at hl;have Q:=ag hl;have b:ah a D:=by rw[<-h];exact ae
 have i:ah w D:=g.trans (b.mono g.size);have A:=gI _ _ _ _ s b;have R:=aG hs1 b.size;clear hl b s hs1;go_enter Tryz.func228,Tryz.ntmps228;go_wp2_with fail
 refine(Sa (d:=d) [(false,N,l)] _ 1 1 1 _ (K.o.a i) Q.o rfl).mono ?_
 clear f h M O P;rintro e S⟨dv,rfl,y,j⟩;obtain⟨E,F,G,H,I,J,rfl⟩:=y.form;have t:ah w S:=i.trans (j.mono i.size);have n:=gI _ _ _ _ A j;obtain⟨r,B⟩:=ak (iR d [(false,N,l)] 1);have T:=ag B;rw[<-B]at y⊢;clear B;obtain⟨ws,W,u,p⟩:=sO (.slice E r.1.1.length F) (.slice G r.1.2.1.length H) (.slice I r.1.2.2.length J) n;obtain⟨X,Y,Z,z4⟩:=cells3 n;obtain⟨q1,q2,q3,q4⟩:=cells3 u;have C:=t.grown p t.size (fun k U=>by cases U;simp);have V:=ag ((y.grown p (by omega)).mono (by omega):kP ws w.heap.size _ _);clear u p y j n;go_wp2;refine bodyPost_ret (v:=.tuple #[.agg #[.slice E r.1.1.length F,.slice G r.1.2.1.length H,.slice I r.1.2.2.length J],.int .i64 r.2]) ?_ rfl ?_
 ·simp[results,Tryz.results228,go_sem, *]
 rw[<-T.o];exact⟨_,rfl,V.o,C⟩
theorem qabd{a b:Bool}(h:a=b):Ending.returned (.bool a)=.returned (.bool b):=by rw[h]
theorem Qf(l m:az):((bs l).toList==(bs m).toList)=decide (l=m):=by
 have e:∀x:az,(bs x).toList=x:=fun x=>by rw[ByteArray.toList_eq];simp[bs]
 rw[e,e];by_cases h:l=m<;>simp[h]
theorem qrt(a b:Value)(l m:az)(w:World)(h:Rd w a l)(k:Rd w b m):
  Calls Tryz.prog 106 #[a,b] w fun e w'=>e=.returned (.bool (decide (l=m)))∧w'=w:=by
 have c:=sD (P:=Tryz.prog) 23 5 9 Tryz.underlying23 Tryz.underlying5 Tryz.underlying9 h;have d:=sD (P:=Tryz.prog) 23 5 9 Tryz.underlying23 Tryz.underlying5 Tryz.underlying9 k;clear h k;go_enter Tryz.func106,Tryz.ntmps106;go_wp2;go_ret;exact⟨qabd (Qf l m),rfl⟩
def uH (d:Dk) (n:Int):az×Int:=if jQ d≠0 then([],jQ d)else if n<0∨(bD d:Int)<=n then([],2)else(dF d n.toNat,0)
def Bo (d:Dk):Int×Int:=if jQ d≠0 then(0,jQ d)else(bD d,0)
theorem qaj8{g:Nat}{l:az}(h:BP w base g l):bG w base (.slice (some ⟨g,0,none⟩) 128 128) l:=by
 obtain⟨b,a,c⟩:=h;show w.ownsRow _ _ _ _ _ _
 rw[a];refine⟨by simp[bO,a],.inr ⟨g,128,_,rfl,b,c,Nat.le_refl _,by unfold maxLen;decide,by simp[bO,a], ?_⟩⟩;rw[Xa1 (by simp[bO,a])]
theorem Fj{a:aA}{c:Nat}{l:az}(h:Rd w (.slice a n c) l)(d hi:Nat)(m:d<hi)(g:hi<=l.length):∃b f,a=some ⟨b,f,none⟩∧n=l.length∧n<=c∧Rd w (.slice (some ⟨b,f+d,none⟩) (hi-d) (c-d)) ((l.drop d).take (hi-d)):=by
 rcases h with⟨rfl,_⟩|⟨b,f,o,e,e1,p,i⟩
 ·simp at g;omega
 cases e;refine⟨b,f,rfl,rfl,e1, ?_⟩;have hl:((l.drop d).take (hi-d)).length=hi-d:=by rw[Xa4,Xa9];omega
 refine .inr ⟨b,f+d,c-d,by rw[hl],by rw[hl];omega,by omega,fun j k=>?_⟩;rw[hl]at k;have:=i (d+j) (by omega)
 rw[Nat.add_assoc];rw[this];simp
theorem Sg{k q n1 c1:Nat}(h:n1=128*q)(a:k<q)(b:n1<=c1):(k+1)*128<=n1∧¬k*128=c1∧(k+1)*128<=c1:=by omega
theorem Kr(k:Nat)(h:k<=1000000):wrap64 ((k:Int)*128)=((k*128:Nat):Int)∧wrap64 (((k:Int)+1)*128)=(((k+1)*128:Nat):Int)∧wrap64 ((k:Int)+1)=(k:Int)+1:=by
 unfold wrap64;refine⟨by omega,by omega,by omega⟩
theorem qafm(n:Int)(w:World)(S:kN w v d):
  Calls Tryz.prog 104 #[v,.int .i64 n] w fun e w'=>∃T,e=.returned (.tuple #[T,.int .i64 (uH d n).2])∧bG w' w.heap.size T (uH d n).1∧ah w w':=by
 obtain⟨a1,c1,a2,c2,a3,c3,rfl,U,h2,_⟩:=S.form;have V:d.1.length<=maxLen:=U.len_le;have HD:=ag S;have H1:=ag U;have H2:=ag h2;clear S U h2;generalize e1:d.1.length=n1 at *;generalize e2:d.2.1.length=n2 at *;generalize e3:d.2.2.length=n3 at *;have E1:=ag e1;have E2:=ag e2;clear e1 e2 e3;obtain⟨q,W⟩:=ak (n1 / 128);have K:=ag (show bD d=q by rw[bD,E1.o,W]);have HC:=ag (fun P=>W▸RI a1 a2 a3 n1 c1 n2 c2 n3 c3 V P:∀P,Calls Tryz.prog 182 #[.agg #[.slice a1 n1 c1,.slice a2 n2 c2,.slice a3 n3 c3]] P fun e w'=>e=.returned (.int .i64 q)∧ah P w');clear W;obtain⟨Q,L⟩:=au (w.alloc (.cells #[.slice a1 n1 c1,.slice a2 n2 c2,.slice a3 n3 c3] 27));have x:ah w Q:=by rw[<-L];exact ae
 have k0:Q.cell? ⟨w.heap.size,0,none⟩=some (.slice a1 n1 c1):=by rw[<-L];simp
 have k1:Q.cell? ⟨w.heap.size,1,none⟩=some (.slice a2 n2 c2):=by rw[<-L];simp
 have k2:Q.cell? ⟨w.heap.size,2,none⟩=some (.slice a3 n3 c3):=by rw[<-L];simp
 go_enter Tryz.func104,Tryz.ntmps104;go_wp2_with fail
 refine(qlp (d:=d) _ (HD.o.a x)).mono ?_
 rintro e w2⟨rfl,f⟩;have i:ah w w2:=x.trans (f.mono x.size);have Ag:=aV _ _ _ _ k0 f;have M:=aV _ _ _ _ k1 f;have X:=aV _ _ _ _ k2 f;clear L k0 k1 k2 x f;rcases Hd d with⟨j,a⟩|⟨j,a⟩
 ·rw[a]
  by_cases I:n<0
  ·have F:=ag (show uH d n=([],2)by unfold uH;rw[if_neg (by rw[a];decide),if_pos (.inl I)])
   clear a j;go_wp2;go_ret2;rw[F.o];exact⟨_,rfl,Xa7 _ _ _ _,i⟩
  have al:decide (n<0)=false:=by simpa using I
  obtain⟨oq,am,an⟩:=mR.of_ok j;have Y:=ag oq;have HK:=ag a;clear a j oq;go_wp2_with fail
  refine(HC.o _).mono ?_
  rintro e w3⟨rfl,A⟩;have m:ah w w3:=i.trans (A.mono i.size);have l0:=aV _ _ _ _ Ag A;have l1:=aV _ _ _ _ M A;clear Ag M X A i;by_cases r:(q:Int)<=n
  ·have F:=ag (show uH d n=([],2)by unfold uH;rw[if_neg (by rw[HK.o];decide),if_pos (.inr (by rw[K.o];exact r))])
   go_wp2;go_ret2;rw[F.o];exact⟨_,rfl,Xa7 _ _ _ _,m⟩
  obtain⟨k,rfl⟩:∃k:Nat,n=k:=⟨n.toNat,by omega⟩
  have Z:k<q:=by omega
  have ao:decide ((q:Int)<=k)=false:=by simpa using r
  have F:=ag (show uH d k=(dF d k,0)by unfold uH;rw[if_neg (by rw[HK.o];decide),if_neg (by rw[K.o];omega)];rfl);clear I r;go_wp2_with fail
  refine(qwj a2 n2 c2 d.2.1 _ E2.o.symm (by have:=Y.o.2.1;omega) (fun p hp=>by have:=wM (Y.o.2.2.2 p hp);omega) (H2.o.a m)).mono ?_
  rintro e w4⟨b,rfl,xJ,B⟩;have C:ah w w4:=m.trans (B.mono m.size);have m0:=aV _ _ _ _ l0 B;have s:keyOf Tryz.prog 3 (.int .i64 (k:Int))=some (.int .i64 (k:Int)):=Maps.keyOf_int_mk Tryz.underlying3 (RX (by omega) (by have:=K.o;omega));obtain⟨D,G,g1,g2,N,g4,g5,g6⟩:=xJ;obtain⟨u,ps,uQ,hv⟩:=g1.look_ok (t:=214) (e:=23) Qb Tryz.underlying214 (Kh _) (zd:=.nil) (zp:=[]) rfl s;rw[N]at hv;cases hl:jR k d.2.1 with
  |some l=>
   obtain⟨g,J,hB⟩:=g5 k l hl;rw[J]at hv;have c:Maps.has D (.int .i64 (k:Int))=true:=Maps.has_true_of_atKey (y:=.lit (.int .i64 g)) (fun z=>by rw[N,J]);rw[c]at uQ;obtain rfl:u=.slice (some ⟨g,0,none⟩) 128 128:=by
    rcases Kg hv with⟨_,h⟩|⟨g',h,h'⟩
    ·cases h
    cases h';exact h
   have HO:=ag (qaj8 hB);have HR:=ag (show dF d k=l by unfold dF;rw[hl];rfl);have R:=m.size;clear hl g1 g2 N g4 g5 g6 s hv c hB J B;go_wp2;go_ret2;rw[F.o,HR.o];exact⟨_,rfl,HO.o.mono R,C⟩
  |none=>
   have J:=g4 k hl;rw[J]at hv;have c:Maps.has D (.int .i64 (k:Int))=false:=Maps.has_false_of_atKey (fun z=>by rw[N,J]);rw[c]at uQ;obtain rfl:u=.slice none 0 0:=by
    rcases Kg hv with⟨h,_⟩|⟨g',_,h'⟩
    ·exact h
    cases h'
   have HR:=ag (show dF d k=blk d.1 k by unfold dF;rw[hl];rfl);have H:d.1.length=128*q:=by have:=Y.o.1;rw[K.o]at this;exact this
   obtain⟨b9,o9,rfl,en,aa,E⟩:=Fj (H1.o.a C) (k*128) ((k+1)*128) (by omega) (by omega);have eb:(d.1.drop (k*128)).take ((k+1)*128-k*128)=blk d.1 k:=by
    unfold blk;rw[show(k+1)*128-k*128=128 by omega,Nat.mul_comm]
   rw[eb]at E;have hx:(k+1)*128-k*128=128:=by omega
   rw[hx]at E;have Ao:=ag E;have Fq:n1=128*q:=by rw[en];exact H
   have Qg:=ag (show(blk d.1 k).length=128 by unfold blk;rw[Xa4,Xa9];omega);obtain⟨ab,ac,ad⟩:=Kr k (by have:=K.o;omega);obtain⟨ai,G9,aj⟩:=Sg Fq Z aa;have R:=C.size;clear hl g1 g2 N g4 g5 g6 s hv c J E Fq en H B eb l0 l1;go_wp2_with fail
   refine(qlm _ (c1-k*128) 128 (blk d.1 k) _ Qg.o.symm (by rw[Qg.o];decide) Ao.o).mono ?_
   rintro e w5⟨T,rfl,Qh,O⟩;have HO:=ag (Qh.mono R);have Er:ah w w5:=C.trans (O.mono R);clear Qh O ai G9 aj ab ac ad hx;go_wp2;go_ret2;rw[F.o,HR.o];exact⟨_,rfl,HO.o,Er⟩
 rw[a]
 have F:=ag (show uH d n=([],20)by unfold uH;rw[if_pos (by rw[a];decide),a]);clear a j;go_wp2;go_ret2;rw[F.o];exact⟨_,rfl,Xa7 _ _ _ _,i⟩
theorem qwk(w:World)(k:kN w v d):
  Calls Tryz.prog 150 #[v] w fun e w'=>e=.returned (.tuple #[.int .i64 (Bo d).1,.int .i64 (Bo d).2])∧ah w w':=by
 obtain⟨a1,c1,a2,c2,a3,c3,rfl,s,y,_⟩:=k.form;have l:d.1.length<=maxLen:=s.len_le;have z:=ag k;clear k s y;generalize e1:d.1.length=n1 at *;generalize A:d.2.1.length=n2 at *;generalize B:d.2.2.length=n3 at *;have C:=ag e1;clear e1 A B;obtain⟨q,m⟩:=ak (n1 / 128);have D:=ag (show bD d=q by rw[bD,C.o,m]);have E:=ag (fun i=>m▸RI a1 a2 a3 n1 c1 n2 c2 n3 c3 l i:∀i,Calls Tryz.prog 182 #[.agg #[.slice a1 n1 c1,.slice a2 n2 c2,.slice a3 n3 c3]] i fun e w'=>e=.returned (.int .i64 q)∧ah i w');clear m;obtain⟨j,h⟩:=au (w.alloc (.cells #[.slice a1 n1 c1,.slice a2 n2 c2,.slice a3 n3 c3] 27));have c:ah w j:=by rw[<-h];exact ae
 have t:j.cell? ⟨w.heap.size,0,none⟩=some (.slice a1 n1 c1):=by rw[<-h];simp
 have u:j.cell? ⟨w.heap.size,1,none⟩=some (.slice a2 n2 c2):=by rw[<-h];simp
 have x:j.cell? ⟨w.heap.size,2,none⟩=some (.slice a3 n3 c3):=by rw[<-h];simp
 go_enter Tryz.func150,Tryz.ntmps150;go_wp2_with fail
 refine(qlp (d:=d) _ (z.o.a c)).mono ?_
 rintro e F⟨rfl,b⟩;have f:ah w F:=c.trans (b.mono c.size);have J:=aV _ _ _ _ t b;have G:=aV _ _ _ _ u b;have H:=aV _ _ _ _ x b;clear h t u x c b;rcases Hd d with⟨g,a⟩|⟨g,a⟩
 ·rw[a]
  have n:=ag (show Bo d=((q:Int),0)by unfold Bo;rw[if_neg (by rw[a];decide),D.o]);clear a g;go_wp2_with fail
  refine(E.o _).mono ?_
  rintro e I⟨rfl,p⟩;have r:ah w I:=f.trans (p.mono f.size);go_wp2;go_ret2;rw[n.o];exact⟨rfl,r⟩
 rw[a]
 have n:=ag (show Bo d=(0,20)by unfold Bo;rw[if_pos (by rw[a];decide),a]);clear a g;go_wp2;go_ret2;rw[n.o];exact⟨rfl,f⟩
theorem qfj{P:Program}(w:World){b:Array Oper}{rest:List Oper}{o:Oper}{a:Act}{Q:Exit->Act->World->Prop}(d:o.guard=none)(s x:Operand)(t:TypeId)(f:o.op=.call {callee:=.builtin .append,args:=#[s,x],argTypes:=#[t,t]})
  {v y v':Value} {w':World} (g:a.eval s=v) (i:a.eval x=y) (c:(Builtin.append_ #[t,t] o.type #[v,y]).run P w=.ok v' w') (h:wpList P b Q rest (a.put o.dst v') w'):wpList P b Q (o::rest) a w:=by
 refine wpList_plain d fun j e=>?_
 unfold Oper.wp;rw[Ep f g i c];exact e _ _ h
theorem Sk(m:Nat):∃u:Nat,u<=100000∧(if(100000:Int)<(m:Int)then(100000:Int)else(m:Int))=(u:Int):=by
 by_cases h:(100000:Int)<m
 ·exact⟨100000,by omega,by rw[if_pos h];rfl⟩
 exact⟨m,by omega,by rw[if_neg h]⟩
theorem qyr(l:List Ac)(a:aA)(n c:Nat)(w:World)(h:pJ w (.slice a n c) l)(j:n=l.length):
  Calls Tryz.prog 111 #[.slice a n c] w fun e w'=>(∃r,e=.returned (.bool r)∧(r=false->l.length<=2000))∧w'=w:=by
 have H:=ag h;have v:=ag j;have p:n<=maxLen:=j▸h.len_le;unfold maxLen at p;clear h j;go_enter Tryz.func111,Tryz.ntmps111;go_wp2;go_loopw [3,4] (fun s i wr=>∃k t:Nat,k<=n∧k<=3000∧t<=k*100000∧s=.int .i64 t∧i=.int .i64 k∧wr=w) (fun _ i _=>3000-(intOf i).toNat)
 case atStart=>exact⟨0,0,by omega,by omega,by omega,rfl,rfl,rfl⟩
 obtain⟨k,t,E,y,F,rfl,rfl,rfl⟩:=hrel;by_cases z:k<n
 ·have f:(k:Int)<n:=by omega
  by_cases G:k<3000
  ·have q:(k:Int)<3000:=by omega
   obtain⟨b,A,rfl,I,J,x,m,d,K,B,C⟩:=H.o.at k (by have:=v.o;omega);clear B C;obtain⟨u,L,D⟩:=Sk m;go_wp2;refine⟨⟨k+1,t+u,by omega,by omega,by omega,by go_num,by go_num,trivial⟩,by simp[intOf]<;>omega⟩
  have q:decide ((k:Int)<3000)=false:=aC (by omega);have g:(2000:Int)<n:=by omega
  go_wp2;go_ret;exact⟨⟨_,rfl,by intro h;cases h⟩,rfl⟩
 have f:decide ((k:Int)<n)=false:=aC (by omega);by_cases M:2000<n
 ·have g:(2000:Int)<n:=by omega
  go_wp2;go_ret;exact⟨⟨_,rfl,by intro h;cases h⟩,rfl⟩
 have g:decide ((2000:Int)<n)=false:=aC (by omega);go_wp2;go_ret;exact⟨⟨_,rfl,fun _=>by have:=v.o;omega⟩,rfl⟩
theorem Hl(w:World)(E:kN w v d):
  Calls Tryz.prog 50 #[v] w fun e w'=>(∃r,e=.returned (.bool r)∧(r=false->d.1.length<=100000∧d.2.1.length<=2000∧d.2.2.length<=2000))∧ah w w':=by
 obtain⟨a1,c1,a2,c2,a3,c3,rfl,F,p,n⟩:=E.form;have q:d.1.length<=maxLen:=F.len_le;have y:d.2.1.length<=maxLen:=p.len_le;have M:d.2.2.length<=maxLen:=n.len_le;have N:=ag p;have O:=ag n;clear E F p n;unfold maxLen at q y M;generalize e1:d.1.length=n1 at *;generalize G:d.2.1.length=n2 at *;generalize H:d.2.2.length=n3 at *;have P:=ag e1;have I:=ag G;have J:=ag H;clear e1 G H;obtain⟨c,f⟩:=au (w.alloc (.cells #[.slice a1 n1 c1,.slice a2 n2 c2,.slice a3 n3 c3] 27));have a:ah w c:=by rw[<-f];exact ae
 have X:c.cell? ⟨w.heap.size,0,none⟩=some (.slice a1 n1 c1):=by rw[<-f];simp
 have Y:c.cell? ⟨w.heap.size,1,none⟩=some (.slice a2 n2 c2):=by rw[<-f];simp
 have Z:c.cell? ⟨w.heap.size,2,none⟩=some (.slice a3 n3 c3):=by rw[<-f];simp
 have Q:=ag (qyr d.2.2 a3 n3 c3 c (O.o.a a) J.o.symm);have z:=ag (N.o.a a);go_enter Tryz.func50,Tryz.ntmps50;go_wp2;clear f;go_loopw [3,4] (fun s i wr=>∃k t:Nat,k<=n2∧k<=3000∧t<=k*100000∧s=.int .i64 t∧i=.int .i64 k∧wr=c) (fun _ i _=>3000-(intOf i).toNat)
 case atStart=>exact⟨0,0,by omega,by omega,by omega,rfl,rfl,rfl⟩
 obtain⟨k,t,hk,R,ht,rfl,rfl,rfl⟩:=hrel;by_cases g:k<n2∧k<3000
 ·obtain⟨g,n⟩:=g
  have K:(k:Int)<n2:=by omega
  have j:(k:Int)<3000:=by omega
  obtain⟨b,S,rfl,q0,x,m,dd,q1,T,U⟩:=z.o.at k (by have:=I.o;omega);obtain⟨u,hu,V⟩:=Sk m;clear T U;go_wp2;refine⟨⟨k+1,t+u,by omega,by omega,by omega,by go_num,by go_num,trivial⟩,by simp[intOf]<;>omega⟩
 by_cases g1:100000<n1
 ·have A:(100000:Int)<n1:=by omega
  by_cases B:k<n2
  ·have C:(k:Int)<n2:=by omega
   have j:decide ((k:Int)<3000)=false:=aC (by omega);go_wp2;go_ret;exact⟨⟨_,rfl,by intro h;cases h⟩,a⟩
  have C:decide ((k:Int)<n2)=false:=aC (by omega);go_wp2;go_ret;exact⟨⟨_,rfl,by intro h;cases h⟩,a⟩
 have A:decide ((100000:Int)<n1)=false:=aC (by omega);by_cases B:k<n2
 ·have C:(k:Int)<n2:=by omega
  have j:decide ((k:Int)<3000)=false:=aC (by omega);have l:(2000:Int)<n2:=by omega
  go_wp2;go_ret;exact⟨⟨_,rfl,by intro h;cases h⟩,a⟩
 have C:decide ((k:Int)<n2)=false:=aC (by omega);by_cases g2:2000<n2
 ·have l:(2000:Int)<n2:=by omega
  go_wp2;go_ret;exact⟨⟨_,rfl,by intro h;cases h⟩,a⟩
 have l:decide ((2000:Int)<n2)=false:=aC (by omega);by_cases g3:400000<t
 ·have D:(400000:Int)<t:=by omega
  go_wp2;go_ret;exact⟨⟨_,rfl,by intro h;cases h⟩,a⟩
 have D:decide ((400000:Int)<t)=false:=aC (by omega);go_wp2_with fail
 refine Q.o.mono ?_
 rintro e w3⟨⟨r,rfl,L⟩,rfl⟩;have W:=ag L;clear L;cases r
 ·go_wp2
  go_ret;exact⟨⟨_,rfl,fun _=>⟨by have:=P.o;omega,by have:=I.o;omega,by have:=W.o (by first|rfl|trivial);have:=J.o;omega⟩⟩,a⟩
 go_wp2;go_ret;exact⟨⟨_,rfl,by intro h;cases h⟩,a⟩
def Sl (d:Dk) (n:Int):az:=(uH d n).1
def ones:az:=List.replicate 128 1
theorem Sm(h:okD d=true):jQ d=0:=by unfold jQ;rw[h];rfl
theorem qrw(h:jQ d=0):okD d=true:=by
 rcases Hd d with⟨a,_⟩|⟨_,b⟩
 ·exact a
 rw[b]at h;cases h
theorem que{e:Dk}{a:Ac}(h:okD d=true)(f:cB (bD d) a=0)(k:fq d a=some e):okD e=true∧bD e=bD d∧e.2.2=d.2.2++[a]:=by
 obtain⟨l,m,n⟩:=mR.of_ok h;obtain⟨c,g⟩:=l.one f k;have i:bD e=bD d:=by have:=c.1;unfold bD at *;omega
 refine⟨?_,i,g⟩;obtain⟨p,_,_,_,_,_,o⟩:=(sM d).1 h;rw[sM,i];refine⟨by have:=c.1;omega,m,n,c.2.1,c.2.2.1,c.2.2.2,fun b j=>?_⟩;rw[g]at j;rcases Xa5.1 j with h|h
 ·exact o b h
 rw[Xb3.1 h];exact f
theorem Ku{l:List Ac}{m:Int}(h:(iR d l m).2=0):okD d=true∧(∀a∈l,cB (bD d) a=0)∧0<=m∧m<=l.length∧∃x,qJ d (l.take m.toNat)=some x∧iR d l m=(x,0):=by
 unfold iR at *;split at h
 ·rename_i h1;exact absurd h h1
 rename_i h1
 split at h
 ·rename_i h2;exact absurd h h2
 rename_i h2
 split at h
 ·cases h
 rename_i h3
 have b:xG (bD d) l=0:=Classical.byContradiction fun e=>h2 e
 refine⟨qrw (Classical.byContradiction fun e=>h1 e),qhp _ _ b,by omega,by omega, ?_⟩;rw[if_neg h1,if_neg h2,if_neg h3];cases hx:qJ d (l.take m.toNat)with
 |none=>rw[hx]at h;cases h
 |some x=>exact⟨x,rfl,by simp only⟩
theorem qlr(h:okD d=true)(a:n<bD d):Sl d n=(jR n d.2.1).getD (blk d.1 n):=by
 unfold Sl uH;rw[if_neg (by rw[Sm h];simp),if_neg (by omega)];rfl
theorem qls{c:Dk}{N:Int}{b:az}(h:okD d=true)(f:cB (bD d) (false,N,b)=0)(a:fq d (false,N,b)=some c)(e:n<bD d):Sl c n=if(n:Int)=N then b else Sl d n:=by
 obtain⟨g,i,_⟩:=que h f a;unfold fq at a;split at a
 ·cases a
 try rw[if_neg (by simp)]at a
 cases a;rw[qlr g (by rw[i];exact e),qlr h e];show(jR n (d.2.1++[(N,b)])).getD (blk d.1 n)=_
 rw[qje];split<;>rfl
def gV (n:Nat):az:=[UInt8.ofNat (n%256),UInt8.ofNat (n / 256%256),UInt8.ofNat (n / 65536%256),UInt8.ofNat (n / 16777216%256)]
def jK:az->Nat
 |[]=>0
 |b::l=>b.toNat+256*jK l
theorem zo(n:Nat):(gV n).length=4:=rfl
theorem Kv:∀l:az,jK l<256^l.length
 |[]=>by simp[jK]
 |b::l=>by
  have:=Kv l
  have a:=b.toNat_lt;rw[jK,Xb0,Nat.pow_succ];omega
theorem qwl(b:UInt8):∀l:az,jK (l++[b])=jK l+b.toNat*256^l.length
 |[]=>by simp[jK]
 |c::l=>by
  have e:jK (c::l++[b])=c.toNat+256*jK (l++[b]):=rfl;rw[e,qwl b l,jK,Xb0,Nat.pow_succ,Nat.mul_add,Nat.add_assoc];congr 2
  rw[Nat.mul_comm (256^l.length) 256,<-Nat.mul_assoc,<-Nat.mul_assoc,Nat.mul_comm 256 b.toNat]
theorem xF(m:Nat):UInt8.ofNat (m%256)=UInt8.ofNat m:=UInt8.toNat_inj.1 (by simp[UInt8.toNat_ofNat'])
theorem qaka(n k:Nat)(a:k<4):(gV n)[k]'(by rw[zo];exact a)=UInt8.ofNat (n / 2^(8*k)):=by
 match k,a with
 |0,_=>simp[gV,xF]
 |1,_=>simp[gV,xF]
 |2,_=>simp[gV,xF]
 |3,_=>simp[gV,xF]
theorem qafn(l:az)(k:Nat)(a:k<l.length):jK (l.take (k+1))=jK (l.take k)+(l[k]).toNat*256^k:=by
 rw[Xa2 a,qwl];congr 2
 rw[Xa4,Xc3 (by omega)]
def iT (gen:Nat) (size:Int):az×Int:=if gen=0∨size<0∨2048<size then([],2)else(gV gen++(gV size.toNat++List.replicate 120 0),0)
def jL (b:az):Nat×Nat×Int:=
 if b.length≠128 then(0,0,3)
 else if(iT (jK (b.take 4)) (jK ((b.drop 4).take 4))).2≠0∨b≠(iT (jK (b.take 4)) (jK ((b.drop 4).take 4))).1 then(0,0,8)
 else(jK (b.take 4),jK ((b.drop 4).take 4),0)
def mi (d:Dk) (n:Nat):Nat×Nat:=if(jL (blk d.1 n)).1%2=n then((jL (blk d.1 n)).1,(jL (blk d.1 n)).2.1)else(0,0)
def sU (a b:Nat×Nat):Nat×Nat:=if a.1<b.1 then b else a
def Fs (d:Dk):Nat×Nat:=sU (sU (0,0) (mi d 0)) (mi d 1)
def jl (d:Dk):Nat×Nat×Int:=
 if jQ d≠0 then(0,0,jQ d)else if bD d<=34 then(0,0,70)
 else if(Fs d).1=0 then(0,0,70)else((Fs d).1,(Fs d).2,0)
theorem Wz(h:(iT a size).2=0):a≠0∧0<=size∧size<=2048∧(iT a size).1=gV a++(gV size.toNat++List.replicate 120 0):=by
 unfold iT at *;split at h
 ·cases h
 rename_i c
 rw[if_neg c];exact⟨by omega,by omega,by omega,rfl⟩
theorem qrx(b:a≠0)(c:0<=size)(d:size<=2048):iT a size=(gV a++(gV size.toNat++List.replicate 120 0),0):=by
 unfold iT;rw[if_neg (by omega)]
theorem qnt(h:(iT a size).2≠0):iT a size=([],2):=by
 unfold iT at *;split
 ·rfl
 rename_i c;rw[if_neg c]at h;exact absurd rfl h
theorem Kw{b:az}(h:(jL b).2.2=0):iT (jL b).1 ((jL b).2.1:Nat)=(b,0):=by
 unfold jL at *;split at h
 ·cases h
 rename_i c1
 split at h
 ·cases h
 rename_i c2
 rw[if_neg c1,if_neg c2];have c:(iT (jK (b.take 4)) (jK ((b.drop 4).take 4))).2=0:=by
  by_cases a:(iT (jK (b.take 4)) (jK ((b.drop 4).take 4))).2=0
  ·exact a
  exact absurd (.inl a) c2
 have d:b=(iT (jK (b.take 4)) (jK ((b.drop 4).take 4))).1:=by
  by_cases a:b=(iT (jK (b.take 4)) (jK ((b.drop 4).take 4))).1
  ·exact a
  exact absurd (.inr a) c2
 show iT (jK (b.take 4)) (jK ((b.drop 4).take 4))=(b,0)
 exact Prod.ext d.symm c
theorem Sn{b:az}(h:(jL b).2.2≠0):(jL b).1=0∧(jL b).2.1=0:=by
 unfold jL at *;split
 ·exact⟨rfl,rfl⟩
 rename_i c1
 rw[if_neg c1]at h;split
 ·exact⟨rfl,rfl⟩
 rename_i c2;rw[if_neg c2]at h;exact absurd rfl h
theorem rz(b:az):(jL b).1<4294967296∧(jL b).2.1<=2048:=by
 by_cases h:(jL b).2.2=0
 ·have:=Kw h
  obtain⟨c,d,e,_⟩:=Wz (by rw[this]:(iT (jL b).1 ((jL b).2.1:Nat)).2=0);refine⟨?_,by omega⟩;unfold jL;split
  ·show(0:Nat)<_;omega
  split
  ·show(0:Nat)<_;omega
  have:=Kv (b.take 4)
  have a:256^(b.take 4).length<=256^4:=Nat.pow_le_pow_right (by decide) (by rw[Xa4];omega);exact Xb8 this a
 obtain⟨c,d⟩:=Sn h
 rw[c,d];exact⟨by omega,by omega⟩
theorem qjf{b:Nat}(h:jl d=(a,b,0)):okD d=true∧34<bD d∧a≠0∧Fs d=(a,b):=by
 unfold jl at h;split at h
 ·rename_i c
  have:=congrArg (fun x=>x.2.2) h
  exact absurd this c
 rename_i c1
 split at h
 ·cases h
 split at h
 ·cases h
 rename_i c2 c3
 injection h with h1 h2;injection h2 with h2 h3;refine⟨qrw (by omega),by omega,by rw[<-h1];exact c3, ?_⟩;exact Prod.ext h1 h2
theorem qry(d:Dk)(n:Nat):(mi d n).1=0∨(mi d n).1%2=n:=by
 unfold mi;split
 ·rename_i h;exact .inr h
 exact .inl rfl
theorem qrz(a b:Nat×Nat):sU a b=a∨sU a b=b:=by
 unfold sU;split
 ·exact .inr rfl
 exact .inl rfl
theorem qnu{f:Nat}(h:Fs d=(a,f))(g:a≠0):mi d (a%2)=(a,f):=by
 have b:=qry d 0;have c:=qry d 1;unfold Fs at h;rcases qrz (sU (0,0) (mi d 0)) (mi d 1)with e|e
 ·rw[e]at h
  rcases qrz (0,0) (mi d 0)with e|e
  ·rw[e]at h
   exact absurd (congrArg Prod.fst h).symm g
  rw[e]at h
  rw[h]at b;have:a%2=0:=by
   rcases b with b|b
   ·exact absurd b g
   exact b
  rw[this];exact h
 rw[e]at h
 rw[h]at c;have:a%2=1:=by
  rcases c with c|c
  ·exact absurd c g
  exact c
 rw[this];exact h
end Go.Proofs.YtmeaiocohalphaaGreatDoor
