/-
  Of the document's side of layer 6: taken, Names.
-/
import Derived.Test.YthpammbgcidloaaGreatRf8
set_option maxHeartbeats 4000000
set_option maxRecDepth 100000
namespace Go.Proofs.YthpammbgcidloaaGreat
open Go.RowKit
set_option linter.all false
theorem qpb {d:Dk} {v:Value} (N:Int) (x:au) (m c:Nat) (l:ak) (w:World) (hD:RdD w v d) (C:Rd w (.slice x m c) l):
  Calls Tryz.prog 74 #[v,.int .i64 N,.slice x m c] w fun e w'=>∃dv,e=.returned (.tuple #[dv,.int .i64 (fC d [(false,N,l)] 1).2])∧jL w' w.heap.size dv (fC d [(false,N,l)] 1).1∧ah w w':=by
 obtain ⟨a1,c1,a2,c2,a3,c3,rfl,D,h2,h3⟩:=hD.form;have xH:=D.len_le;have HD:=ag hD;have hm:m=l.length:=by obtain ⟨_,_,e⟩:=C.form;cases e;rfl
 have FW:=ag C;have HM:=ag hm;clear C hm;clear hD D h2 h3;generalize e1:d.1.length=n1 at *;generalize e2:d.2.1.length=n2 at *;generalize e3:d.2.2.length=n3 at *;have aa:=ag xH;have Ws:=ag (show bq d=n1 / 128 by rw [<-e1];rfl);clear e1 e2 e3 xH;obtain ⟨w1,Z⟩:=aj ((w.alloc (.cells #[.slice a1 n1 c1,.slice a2 n2 c2,.slice a3 n3 c3] 26)).alloc (.cells #[.slice none 0 0,.slice none 0 0,.slice none 0 0] 26));have n:ah w w1:=by rw [<-Z];exact (ae).alloc (by simp) _
 have E:w1.heap[w.heap.size]? =some (.cells #[.slice a1 n1 c1,.slice a2 n2 c2,.slice a3 n3 c3] 26 (0,0)):=by
  rw [<-Z,heap_alloc_old _ _ (by simp)];exact heap_alloc_new _ _
 have M:w1.heap[w.heap.size+1]? =some (.cells #[.slice none 0 0,.slice none 0 0,.slice none 0 0] 26 (0,0)):=by rw [<-Z];exact pq _ _ _
 obtain ⟨O,P,Q,_⟩:=cells3 E;go_enter Tryz.func74,Tryz.ntmps74;go_wp2_with fail
 refine (V9 (d:=d) _ (HD.o.a n)).mono ?_
 rintro e w2 ⟨rfl,p⟩;have i:ah w w2:=n.trans (p.mono n.size);have q:=eH _ _ _ _ E p;have s:=eH _ _ _ _ M p;clear Z O P Q M E n p;rcases Co d with ⟨j,f⟩ | ⟨j,f⟩
 case inr=>
  rw [f];have F:=ag (show fC d [(false,N,l)] 1=(dz,20) by unfold fC;rw [if_pos (by rw [f];decide),f]);clear f j q;obtain ⟨ws,bP,b,a⟩:=ou (.slice none 0 0) (.slice none 0 0) (.slice none 0 0) s;obtain ⟨z1,z2,z3,z4⟩:=cells3 s;obtain ⟨q1,q2,q3,q4⟩:=cells3 b;have g:=i.grown a i.size (fun k G=>by cases G;simp);clear b a;go_wp2;refine bodyPost_ret (v:=.tuple #[.agg #[.slice none 0 0,.slice none 0 0,.slice none 0 0],.int .i64 20]) ?_ rfl ?_
  ·simp [results,Tryz.results74,go_sem, *]
  ·rw [F.o];exact ⟨_,rfl,zC _ _,g⟩
 rw [f];have jo:=ag j;obtain ⟨kr,al,ab⟩:=kJ.of_ok j;have HF:=ag kr;have wQ:=ag f;clear f j kr;obtain ⟨O,P,Q,_⟩:=cells3 q;go_wp2_with fail
 refine (OX a1 a2 a3 n1 c1 n2 c2 n3 c3 aa.o _).mono ?_
 rintro e w3 ⟨rfl,t⟩;have H:=i.trans (t.mono i.size);have R:=eH _ _ _ _ q t;have S:=eH _ _ _ _ s t;clear O P Q t i q s;rw [<-Ws.o];go_wp2_with fail
 refine (qpw N x m c l (bq d) HM.o _).mono ?_
 rintro e w4 ⟨rfl,u⟩;have h:=H.trans (u.mono H.size);have I:=eH _ _ _ _ R u;have y:=eH _ _ _ _ S u;clear u H R S;obtain ⟨L,J⟩:=aj (dP (bq d) (N,l));rw [J];have mh:=ag J;clear J;by_cases z:L=0
 case neg=>
  have F:=ag (show fC d [(false,N,l)] 1=(dz,L) by
   have D:nY d [(false,N,l)]=L:=by
    unfold nY;rw [if_neg (by rw [wQ.o];decide)];show (if dP (bq d) (N,l)=0 then (0:Int) else dP (bq d) (N,l))=L
    rw [mh.o,if_neg z]
   rw [Gt d _ 1 (by rw [D];exact z),D])
  have am:(L !=0)=true:=by simpa using z
  clear I;obtain ⟨ws,bP,b,a⟩:=ou (.slice none 0 0) (.slice none 0 0) (.slice none 0 0) y;obtain ⟨z1,z2,z3,z4⟩:=cells3 y;obtain ⟨q1,q2,q3,q4⟩:=cells3 b;have g:=h.grown a h.size (fun k G=>by cases G;simp);clear b a;go_wp2;refine bodyPost_ret (v:=.tuple #[.agg #[.slice none 0 0,.slice none 0 0,.slice none 0 0],.int .i64 L]) ?_ rfl ?_
  ·simp [results,Tryz.results74,go_sem, *]
  ·rw [F.o];exact ⟨_,rfl,zC _ _,g⟩
 subst z;have ac:=ag (show bX (bq d) (false,N,l)=0 from mh.o);obtain ⟨O,P,Q,_⟩:=cells3 I;go_wp2_with fail
 clear O P Q;refine (Su (d:=d) _ (HD.o.a h) jo.o).mono ?_
 rintro e w5 ⟨v5,B,rfl,A8,K⟩;have jh:=h.trans (K.mono h.size);have sK:=eH _ _ _ _ y K;have SI:=ag (A8.mono h.size);clear K y I A8;go_wp2_with fail
 refine (Sv w B (bq d) d v5 false N x m c l _ SI.o jh FW.o HM.o (by have:=(sH mh.o).2.2;simp only at this;omega) HF.o ab).mono ?_
 rintro e w6 ⟨v6,r,rfl,T,⟨y1,m1,d1,y2,m2,d2,y3,m3,d3,rfl⟩,qE,A⟩;have A7:=T.2 _ _ _ sK
 have SK:=ag (show fC d [(false,N,l)] 1=(match dX d (false,N,l) with | none=>(dz,9) | some x=>(x,0)) by
  have D:nY d [(false,N,l)]=0:=by
   unfold nY;rw [if_neg (by rw [wQ.o];decide)];show (if bX (bq d) (false,N,l)=0 then (0:Int) else _)=0
   rw [ac.o];rfl
  have:=Sw d [(false,N,l)] 1 D aI
  rw [show ((1:Nat):Int)=1 from rfl] at this;rw [this];show (match oh d [(false,N,l)] with | none=>_ | some x=>_)=_
  unfold oh;cases dX d (false,N,l) with
  | none=>rfl
  | some x=>rfl)
 have wJ:=ag A;clear T sK jh SI A;obtain ⟨w7,oH⟩:=aj (w6.alloc (.cells #[.slice y1 m1 d1,.slice y2 m2 d2,.slice y3 m3 d3] 26));have U:ah w6 w7:=by rw [<-oH];exact ae
 have V:w7.heap[w6.heap.size]? =some (.cells #[.slice y1 m1 d1,.slice y2 m2 d2,.slice y3 m3 d3] 26 (0,0)):=by rw [<-oH];exact heap_alloc_new _ _
 have qa:=qE.trans (U.mono qE.size);have W:=eH _ _ _ _ A7 U;rcases wJ.o with ⟨X,hr⟩ | ⟨d',X,hr,Y⟩
 ·subst hr
  have F:=ag (show fC d [(false,N,l)] 1=(dz,9) by rw [SK.o,X]);clear X V U A7 wJ;obtain ⟨ws,bP,b,a⟩:=ou (.slice none 0 0) (.slice none 0 0) (.slice none 0 0) W;obtain ⟨z1,z2,z3,z4⟩:=cells3 W;obtain ⟨q1,q2,q3,q4⟩:=cells3 b;have g:=qa.grown a qa.size (fun k G=>by cases G;simp);clear b a;go_wp2;refine bodyPost_ret (v:=.tuple #[.agg #[.slice none 0 0,.slice none 0 0,.slice none 0 0],.int .i64 9]) ?_ rfl ?_
  ·simp [results,Tryz.results74,go_sem, *]
  ·rw [F.o];exact ⟨_,rfl,zC _ _,g⟩
 ·subst hr
  have F:=ag (show fC d [(false,N,l)] 1=(d',0) by rw [SK.o,X]);have Ny:=ag (Y.own.a U);obtain ⟨ws,bP,b,a⟩:=ou (.slice y1 m1 d1) (.slice y2 m2 d2) (.slice y3 m3 d3) W;obtain ⟨z1,z2,z3,z4⟩:=cells3 W;obtain ⟨l1,l2,l3,l4⟩:=cells3 V;obtain ⟨q1,q2,q3,q4⟩:=cells3 b;have g:=qa.grown a qa.size (fun k G=>by cases G;simp);have ad:=ag (Ny.o.keptT3 a W);clear b a Y X U A7 wJ;go_wp2;refine bodyPost_ret (v:=.tuple #[.agg #[.slice y1 m1 d1,.slice y2 m2 d2,.slice y3 m3 d3],.int .i64 0]) ?_ rfl ?_
  ·simp [results,Tryz.results74,go_sem, *]
  ·rw [F.o];exact ⟨_,rfl,ad.o,g⟩
theorem vV {d:Dk} {v:Value} (w:World) (V:RdD w v d):
  Calls Tryz.prog 86 #[v] w fun e w'=>∃dv,e=.returned (.tuple #[dv,.int .i64 (fC d [(true,0,[])] 1).2])∧jL w' w.heap.size dv (fC d [(true,0,[])] 1).1∧ah w w':=by
 obtain ⟨a1,c1,a2,c2,a3,c3,rfl,I,h2,h3⟩:=V.form;have xH:=I.len_le;have HD:=ag V;clear V I h2 h3;generalize e1:d.1.length=n1 at *;generalize e2:d.2.1.length=n2 at *;generalize e3:d.2.2.length=n3 at *;have ab:=ag xH;have Ws:=ag (show bq d=n1 / 128 by rw [<-e1];rfl);clear e1 e2 e3 xH;obtain ⟨W,J⟩:=aj ((w.alloc (.cells #[.slice a1 n1 c1,.slice a2 n2 c2,.slice a3 n3 c3] 26)).alloc (.cells #[.slice none 0 0,.slice none 0 0,.slice none 0 0] 26));have i:ah w W:=by rw [<-J];exact (ae).alloc (by simp) _
 have q:W.heap[w.heap.size]? =some (.cells #[.slice a1 n1 c1,.slice a2 n2 c2,.slice a3 n3 c3] 26 (0,0)):=by
  rw [<-J,heap_alloc_old _ _ (by simp)];exact heap_alloc_new _ _
 have u:W.heap[w.heap.size+1]? =some (.cells #[.slice none 0 0,.slice none 0 0,.slice none 0 0] 26 (0,0)):=by rw [<-J];exact pq _ _ _
 obtain ⟨K,L,M,_⟩:=cells3 q;go_enter Tryz.func86,Tryz.ntmps86;go_wp2_with fail
 refine (V9 (d:=d) _ (HD.o.a i)).mono ?_
 rintro e w2 ⟨rfl,j⟩;have l:ah w w2:=i.trans (j.mono i.size);have m:=eH _ _ _ _ q j;have n:=eH _ _ _ _ u j;clear J K L M u q i j;rcases Co d with ⟨f,b⟩ | ⟨f,b⟩
 case inr=>
  rw [b];have y:=ag (show fC d [(true,0,[])] 1=(dz,20) by unfold fC;rw [if_pos (by rw [b];decide),b]);clear b f m;obtain ⟨ws,bP,c,a⟩:=ou (.slice none 0 0) (.slice none 0 0) (.slice none 0 0) n;obtain ⟨z1,z2,z3,z4⟩:=cells3 n;obtain ⟨q1,q2,q3,q4⟩:=cells3 c;have g:=l.grown a l.size (fun k z=>by cases z;simp);clear c a;go_wp2;refine bodyPost_ret (v:=.tuple #[.agg #[.slice none 0 0,.slice none 0 0,.slice none 0 0],.int .i64 20]) ?_ rfl ?_
  ·simp [results,Tryz.results86,go_sem, *]
  ·rw [y.o];exact ⟨_,rfl,zC _ _,g⟩
 rw [b];have jo:=ag f;obtain ⟨kr,ac,X⟩:=kJ.of_ok f;have HF:=ag kr;have wQ:=ag b;clear b f kr;obtain ⟨K,L,M,_⟩:=cells3 m;have h:=l;have A:=m;have s:=n;obtain ⟨w4,xI⟩:=ai w2;rw [<-xI] at h A s K L M ⊢;clear l m n xI;have Y:=ag (show bX (bq d) (true,0,[])=0 from rfl);go_wp2_with fail
 clear K L M;refine (Su (d:=d) _ (HD.o.a h) jo.o).mono ?_
 rintro e w5 ⟨v5,B,rfl,A8,t⟩;have jh:=h.trans (t.mono h.size);have sK:=eH _ _ _ _ s t;have SI:=ag (A8.mono h.size);clear t s A A8;go_wp2_with fail
 refine (Sv w B (bq d) d v5 true 0 none 0 0 [] _ SI.o jh (.inl ⟨rfl,.inl rfl⟩) rfl (by decide) HF.o X).mono ?_
 rintro e Z ⟨v6,r,rfl,C,⟨N,O,d1,P,Q,d2,R,S,T,rfl⟩,qE,p⟩;have A7:=C.2 _ _ _ sK
 have SK:=ag (show fC d [(true,0,[])] 1=(match dX d (true,0,[]) with | none=>(dz,9) | some x=>(x,0)) by
  have I:nY d [(true,0,[])]=0:=by
   unfold nY;rw [if_neg (by rw [wQ.o];decide)];show (if bX (bq d) (true,0,[])=0 then (0:Int) else _)=0
   rw [Y.o];rfl
  have:=Sw d [(true,0,[])] 1 I aI
  rw [show ((1:Nat):Int)=1 from rfl] at this;rw [this];show (match oh d [(true,0,[])] with | none=>_ | some x=>_)=_
  unfold oh;cases dX d (true,0,[]) with
  | none=>rfl
  | some x=>rfl)
 have wJ:=ag p;clear C sK jh SI p;obtain ⟨w7,oH⟩:=aj (Z.alloc (.cells #[.slice N O d1,.slice P Q d2,.slice R S T] 26));have D:ah Z w7:=by rw [<-oH];exact ae
 have E:w7.heap[Z.heap.size]? =some (.cells #[.slice N O d1,.slice P Q d2,.slice R S T] 26 (0,0)):=by rw [<-oH];exact heap_alloc_new _ _
 have U:=qE.trans (D.mono qE.size);have F:=eH _ _ _ _ A7 D;rcases wJ.o with ⟨G,hr⟩ | ⟨d',G,hr,H⟩
 ·subst hr
  have y:=ag (show fC d [(true,0,[])] 1=(dz,9) by rw [SK.o,G]);clear G E D A7 wJ;obtain ⟨ws,bP,c,a⟩:=ou (.slice none 0 0) (.slice none 0 0) (.slice none 0 0) F;obtain ⟨z1,z2,z3,z4⟩:=cells3 F;obtain ⟨q1,q2,q3,q4⟩:=cells3 c;have g:=U.grown a U.size (fun k z=>by cases z;simp);clear c a;go_wp2;refine bodyPost_ret (v:=.tuple #[.agg #[.slice none 0 0,.slice none 0 0,.slice none 0 0],.int .i64 9]) ?_ rfl ?_
  ·simp [results,Tryz.results86,go_sem, *]
  ·rw [y.o];exact ⟨_,rfl,zC _ _,g⟩
 ·subst hr
  have y:=ag (show fC d [(true,0,[])] 1=(d',0) by rw [SK.o,G]);have Ny:=ag (H.own.a D);obtain ⟨ws,bP,c,a⟩:=ou (.slice N O d1) (.slice P Q d2) (.slice R S T) F;obtain ⟨z1,z2,z3,z4⟩:=cells3 F;obtain ⟨l1,l2,l3,l4⟩:=cells3 E;obtain ⟨q1,q2,q3,q4⟩:=cells3 c;have g:=U.grown a U.size (fun k z=>by cases z;simp);have aa:=ag (Ny.o.keptT3 a F);clear c a H G D A7 wJ;go_wp2;refine bodyPost_ret (v:=.tuple #[.agg #[.slice N O d1,.slice P Q d2,.slice R S T],.int .i64 0]) ?_ rfl ?_
  ·simp [results,Tryz.results86,go_sem, *]
  ·rw [y.o];exact ⟨_,rfl,aa.o,g⟩
theorem MX {f:Fsd} (h:bL f):((f.1.1.length<=140737488355328∧f.1.2.1.length<=1000000∧f.1.2.2.length<=1000000)∧f.2.2.1.length<=1000∧(∀g∈f.2.2.1,g.2.length<=1000000)∧f.2.2.2.length<=1000∧∀g∈f.2.2.2,g.2.length<=1000000)∧((∀p∈f.1.2.1,p.2.length<=140737488355328)∧∀p∈f.1.2.2,p.2.2.length<=140737488355328):=by
 obtain ⟨n,o,q,r,s,i,j⟩:=(qp f.1).1 (ny h).1;have t:=IK (ny h).1;obtain ⟨b,c⟩:=Xu (uG h);unfold BU at b c;refine ⟨⟨⟨by omega,by omega,by omega⟩,by have:=b.1;omega,fun g d=>by have:=b.2 g d;omega,by have:=c.1;omega,fun g d=>by have:=c.2 g d;omega⟩,fun p k=>by have:=(sH (i p k)).2.2;omega,fun a l=>?_⟩;have:=j a l
 unfold bX at this;split at this
 ·split at this
  ·cases this
  ·rename_i h8
   have m:a.2.2=[]:=by
    by_cases e:a.2.2=[]
    ·exact e
    ·exact absurd (.inr e) h8
   rw [m];simp
 ·have:=(sH this).2.2;omega
theorem bf.dir {w:World} {p:Nat} {y:FsV} (h:bf w p y) (a:au) (n c:Nat):bf (w.setCell ⟨p,4,none⟩ (.slice a n c)) p {y with a4:=a,n4:=n,c4:=c}:=by
 have:=Bq.put h 4 (.slice a n c)
 exact this
def set3 (w:World) (p:Nat) (a1:au) (n1 c1:Nat) (a2:au) (n2 c2:Nat) (a3:au) (n3 c3:Nat):World:=((w.setCell ⟨p,0,none⟩ (.slice a1 n1 c1)).setCell ⟨p,1,none⟩ (.slice a2 n2 c2)).setCell ⟨p,2,none⟩ (.slice a3 n3 c3)
theorem bf.disk {w:World} {p:Nat} {y:FsV} (h:bf w p y) (a:au) (n1 c1:Nat) (a2:au) (n2 c2:Nat) (a3:au) (n3 c3:Nat):bf (set3 w p a n1 c1 a2 n2 c2 a3 n3 c3) p {y with a1:=a,n1:=n1,c1:=c1,a2:=a2,n2:=n2,c2:=c2,a3:=a3,n3:=n3,c3:=c3}:=by
 have:=((Bq.put h 0 (.slice a n1 c1)).put 1 (.slice a2 n2 c2)).put 2 (.slice a3 n3 c3)
 exact this
theorem qpc (w:World) (p:Nat) (a:au) (n1 c1:Nat) (a2:au) (n2 c2:Nat) (a3:au) (n3 c3:Nat):w.grownBy (set3 w p a n1 c1 a2 n2 c2 a3 n3 c3) (some p):=tH (tH (lV w ⟨p,0,none⟩ _) 1 _) 2 _
theorem aW.parts6 {w:World} {base:Nat} {y:FsV} {f:Fsd} (h:aW w base y.val f):y.g=f.2.1∧jL w base (.agg #[.slice y.a1 y.n1 y.c1,.slice y.a2 y.n2 y.c2,.slice y.a3 y.n3 y.c3]) f.1∧bJ w base (.slice y.a4 y.n4 y.c4) f.2.2.1∧bJ w base (.slice y.a5 y.n5 y.c5) f.2.2.2:=by
 obtain ⟨d1,d2,j,a,b,e,c,d,i⟩:=h;unfold FsV.val at e;simp only [Value.agg.injEq,Array.mk.injEq,List.cons.injEq,and_true,Value.int.injEq,true_and] at e;obtain ⟨rfl,rfl,rfl,k,rfl,rfl⟩:=e;exact ⟨by omega,c,d,i⟩
theorem qadh {w:World} {p:Nat} {a:Value} (h:Bq w p 30 #[a]):w.cell? ⟨p,0,none⟩=some a:=h.cell 0
theorem qtd {w:World} {p:Nat} {a b c:Value} (h:Bq w p 26 #[a,b,c]):w.cell? ⟨p,0,none⟩=some a∧w.cell? ⟨p,1,none⟩=some b∧w.cell? ⟨p,2,none⟩=some c:=⟨h.cell 0,h.cell 1,h.cell 2⟩
theorem qza (x:FsV) (f:Fsd) (w:World) (h:RdX w x f) (hw:WfX f):
  Calls Tryz.prog 43 #[x.val] w fun e w'=>∃v,e=.returned (.tuple #[v,.int .i64 (jc f).2])∧aW w' w.heap.size v (jc f).1∧ah w w':=by
 have HW:=ag hw;have HX:=ag h;clear hw h;obtain ⟨w1,U⟩:=aj ((w.alloc (.cells x.cs 32)).alloc (.cells #[.slice none 0 0,.slice none 0 0,.slice none 0 0,.int .u32 0,.slice none 0 0,.slice none 0 0] 32));have q0:ah w (w.alloc (.cells x.cs 32)):=ae;have q1:Below (w.alloc (.cells x.cs 32)).heap.size (w.alloc (.cells x.cs 32)) w1:=by rw [<-U];exact ae
 have oM:=ag (show bf w1 w.heap.size x from (Bq.new w 32 x.cs).a q1);have yg:=ag (show dE w1 (w.heap.size+1) by have:=dE.new (w.alloc (.cells x.cs 32));rw [<-U];simpa using this);have bi:=ag (q0.trans (q1.mono q0.size));clear q0 q1;unfold FsV.val;unfold FsV.cs at U;go_enter Tryz.func43,Tryz.ntmps43;obtain ⟨V,W,X,Y,Z,iN⟩:=aV oM.o;have g:=XT x f w1 (HX.o.a bi.o) HW.o;go_wp2_with fail
 try rw [U]
 refine g.mono ?_
 rintro e I ⟨rfl,a⟩;have lG:=ag (oM.o.a a);have mW:=ag (yg.o.a a);have bg:=bT bi a;clear g a V W X Y Z iN;try clear U
 rcases (wP f).symm with ⟨_,j⟩ | ⟨aa,j⟩
 ·have D:=ag (show jc f=(fz,8) by rw [XA];rw [if_pos (by rw [j];decide),j])
  rw [j];clear j;have b:=ag ((show aW I w.heap.size (⟨none,0,0,none,0,0,none,0,0,0,none,0,0,none,0,0⟩:FsV).val fz from jO I w.heap.size).stored (r:=w.heap.size+1) mW.o bg.o (by omega));obtain ⟨⟨d0,e0⟩,⟨d1,e1⟩,⟨d2,J⟩,⟨d3,K⟩,⟨d4,L⟩,⟨d5,M⟩,i⟩:=mW.o.cells;have N:=i 0;have O:=i 1;have P:=i 2;have Q:=i 3;have R:=i 4;have S:=i 5;clear i;go_wp2;have e6:aY I (w.heap.size+1) (⟨none,0,0,none,0,0,none,0,0,0,none,0,0,none,0,0⟩:FsV)=((((((I.setCell ⟨w.heap.size+1,0,none⟩ (.slice none 0 0)).setCell ⟨w.heap.size+1,1,none⟩ (.slice none 0 0)).setCell ⟨w.heap.size+1,2,none⟩ (.slice none 0 0)).setCell ⟨w.heap.size+1,3,none⟩ (.int .u32 0)).setCell ⟨w.heap.size+1,4,none⟩ (.slice none 0 0)).setCell ⟨w.heap.size+1,5,none⟩ (.slice none 0 0)):=rfl;rw [e6] at b;obtain ⟨w9,l⟩:=ai (((((((I.setCell ⟨w.heap.size+1,0,none⟩ (.slice none 0 0)).setCell ⟨w.heap.size+1,1,none⟩ (.slice none 0 0)).setCell ⟨w.heap.size+1,2,none⟩ (.slice none 0 0)).setCell ⟨w.heap.size+1,3,none⟩ (.int .u32 0)).setCell ⟨w.heap.size+1,4,none⟩ (.slice none 0 0)).setCell ⟨w.heap.size+1,5,none⟩ (.slice none 0 0)));rw [<-l] at b ⊢;clear e6;clear e0 e1 J K L M N O P Q R S;obtain ⟨z0,z1,z2,z3,z4,z5⟩:=aV b.o.2.2;dsimp only at z0 z1 z2 z3 z4 z5;try simp only [Exit.inBlock,Exit.then]
  refine bodyPost_ret (v:=.tuple #[(⟨none,0,0,none,0,0,none,0,0,0,none,0,0,none,0,0⟩:FsV).val,.int .i64 (8)]) ?_ rfl (⟨_,by rw [D.o],by rw [D.o];exact b.o.1,b.o.2.1⟩)
  clear l;simp [results,Tryz.results43,go_sem, *]
 rw [j];have qx:=ag j;clear j;have jo:=ag aa;clear aa;obtain ⟨V,W,X,Y,Z,iN⟩:=aV lG.o;have g:=vV (d:=f.1) I (HX.o.d.a bg.o);go_wp2_with fail
 refine g.mono ?_
 rintro e w3 ⟨dv,rfl,n,a⟩;have AY:=ag (lG.o.a a);have oZ:=ag (mW.o.a a);have bU:=bT bg a;clear g a V W X Y Z iN;obtain ⟨E,Jj⟩:=ai (fC f.1 [(true,0,[])] 1);rw [<-Jj] at n ⊢;have El:=ag Jj;clear Jj;obtain ⟨p,q,ma,s,t,u,e9⟩:=n.form;subst e9;obtain ⟨z,G⟩:∃m:Nat,m=(E.1).1.length:=⟨_,rfl⟩;obtain ⟨A,Nu⟩:∃m:Nat,m=(E.1).2.1.length:=⟨_,rfl⟩;obtain ⟨B,H⟩:∃m:Nat,m=(E.1).2.2.length:=⟨_,rfl⟩;rw [<-G,<-Nu,<-H] at n;rw [<-G,<-Nu,<-H];have Jk:=ag (n.mono bg.o.size);clear n G Nu H;obtain ⟨F,yz⟩:=aj (w3.alloc (.cells #[.slice p z q,.slice ma A s,.slice t B u] 26))
 have c:ah w3 F:=by rw [<-yz];exact ae
 have SL:=ag (AY.o.a c);have Jl:=ag (oZ.o.a c);have Jm:=ag (Jk.o.a c);have zm:=bT bU c;have Jn:=ag (show Bq F w3.heap.size 26 #[.slice p z q,.slice ma A s,.slice t B u] by rw [<-yz];exact Bq.new _ _ _);clear c;by_cases j:¬E.2=0
 ·have D:=ag (show jc f=(fz,E.2) by rw [XA,if_neg (by rw [qx.o];decide),<-El.o,if_pos j])
  have b:=ag ((show aW F w.heap.size (⟨none,0,0,none,0,0,none,0,0,0,none,0,0,none,0,0⟩:FsV).val fz from jO F w.heap.size).stored (r:=w.heap.size+1) Jl.o zm.o (by omega));obtain ⟨⟨d0,e0⟩,⟨d1,e1⟩,⟨d2,J⟩,⟨d3,K⟩,⟨d4,L⟩,⟨d5,M⟩,i⟩:=Jl.o.cells;have N:=i 0;have O:=i 1;have P:=i 2;have Q:=i 3;have R:=i 4;have S:=i 5;clear i;go_wp2;have e6:aY F (w.heap.size+1) (⟨none,0,0,none,0,0,none,0,0,0,none,0,0,none,0,0⟩:FsV)=((((((F.setCell ⟨w.heap.size+1,0,none⟩ (.slice none 0 0)).setCell ⟨w.heap.size+1,1,none⟩ (.slice none 0 0)).setCell ⟨w.heap.size+1,2,none⟩ (.slice none 0 0)).setCell ⟨w.heap.size+1,3,none⟩ (.int .u32 0)).setCell ⟨w.heap.size+1,4,none⟩ (.slice none 0 0)).setCell ⟨w.heap.size+1,5,none⟩ (.slice none 0 0)):=rfl;rw [e6] at b;obtain ⟨w9,l⟩:=ai (((((((F.setCell ⟨w.heap.size+1,0,none⟩ (.slice none 0 0)).setCell ⟨w.heap.size+1,1,none⟩ (.slice none 0 0)).setCell ⟨w.heap.size+1,2,none⟩ (.slice none 0 0)).setCell ⟨w.heap.size+1,3,none⟩ (.int .u32 0)).setCell ⟨w.heap.size+1,4,none⟩ (.slice none 0 0)).setCell ⟨w.heap.size+1,5,none⟩ (.slice none 0 0)));rw [<-l] at b ⊢;clear e6;clear e0 e1 J K L M N O P Q R S;obtain ⟨z0,z1,z2,z3,z4,z5⟩:=aV b.o.2.2;dsimp only at z0 z1 z2 z3 z4 z5;try simp only [Exit.inBlock,Exit.then]
  refine bodyPost_ret (v:=.tuple #[(⟨none,0,0,none,0,0,none,0,0,0,none,0,0,none,0,0⟩:FsV).val,.int .i64 (E.2)]) ?_ rfl (⟨_,by rw [D.o],by rw [D.o];exact b.o.1,b.o.2.1⟩)
  clear l;simp [results,Tryz.results43,go_sem, *]
 rw [Decidable.not_not] at j;rw [j];have BS:=ag j;clear j;obtain ⟨V,W,X,Y,Z,iN⟩:=aV SL.o;have g:=XY x f F (HX.o.a zm.o) (MX jo.o).1 (MX jo.o).2;go_wp2_with fail
 try rw [yz]
 refine g.mono ?_
 rintro e C ⟨y,rfl,ho,a⟩;have Je:=ag (SL.o.a a);have Dn:=ag (Jl.o.a a);have Jo:=ag (Jm.o.a a);have Jp:=ag (Jn.o.a a);have jB:=bT zm a;clear g a V W X Y Z iN;try clear yz
 have Fa:=ag (ho.mono zm.o.size);clear ho;unfold FsV.val;obtain ⟨wz,ug⟩:=aj (C.alloc (.cells y.cs 32));have c:ah C wz:=by rw [<-ug];exact ae
 have SN:=ag (Je.o.a c);have SQ:=ag (Dn.o.a c);have SS:=ag (Jo.o.a c);have SV:=ag (Jp.o.a c);have Fe:=bT jB c;have T:=ag (show bf wz C.heap.size y by rw [<-ug];exact Bq.new _ _ _);have yC:=ag ((Fa.o.a c).parts6);unfold FsV.cs at ug;clear c Fa;have uh:=ag (show wz.grownBy (set3 wz (C.heap.size) p z q ma A s t B u) (some (C.heap.size)) from qpc wz (C.heap.size) p z q ma A s t B u);have BX:=ag (show w.heap.size+1<C.heap.size from Dn.o.lt);have ab:=ag (T.o.disk p z q ma A s t B u);have Ff:=ag (SQ.o.grown uh.o (by have:=BX.o;omega));have SX:=ag (Fe.o.grown uh.o Fe.o.size (by intro k hk;cases hk;have:=BX.o;omega));have ac:=ag (show aW (set3 wz (C.heap.size) p z q ma A s t B u) w.heap.size ({y with a1:=p,n1:=z,c1:=q,a2:=ma,n2:=A,c2:=s,a3:=t,n3:=B,c3:=u}:FsV).val (E.1,f.2) from ⟨_,_,_,_,_,by rw [<-yC.o.1],(SS.o).keptS uh.o T.o (by decide) (by decide) (by decide),(yC.o.2.2.1).keptS uh.o T.o (by decide) (by decide),(yC.o.2.2.2).keptS uh.o T.o (by decide) (by decide)⟩);have b:=ag (ac.o.stored (r:=w.heap.size+1) Ff.o SX.o (by omega));obtain ⟨Jq,Jr,Js,Jt,Ju,Jv⟩:=aV T.o;obtain ⟨sj,su,sw,sD,sF,sG⟩:=aV ab.o;dsimp only at sj su sw sD sF sG;have ad:=T.o.fz;obtain ⟨⟨d0,e0⟩,⟨d1,e1⟩,⟨d2,J⟩,⟨d3,K⟩,⟨d4,L⟩,⟨d5,M⟩,i⟩:=Ff.o.cells;have N:=i 0;have O:=i 1;have P:=i 2;have Q:=i 3;have R:=i 4;have S:=i 5;clear i;obtain ⟨X7,al,am⟩:=qtd SV.o;unfold set3 at sj su sw sD sF sG e0 e1 J K L M N O P Q R S;go_wp2;try rw [ug]
 obtain ⟨w9,l⟩:∃w9,w9=aY (set3 wz (C.heap.size) p z q ma A s t B u) (w.heap.size+1) ({y with a1:=p,n1:=z,c1:=q,a2:=ma,n2:=A,c2:=s,a3:=t,n3:=B,c3:=u}:FsV):=⟨_,rfl⟩;rw [<-l] at b;unfold aY at l;dsimp only at l
 try unfold set3 at l
 rw [<-l];clear e0 e1 J K L M N O P Q R S Jq Jr Js Jt Ju Jv sj su sw sD sF sG ug;obtain ⟨z0,z1,z2,z3,z4,z5⟩:=aV b.o.2.2;dsimp only at z0 z1 z2 z3 z4 z5;try simp only [Exit.inBlock,Exit.then]
 have D:=ag (show jc f=((E.1,f.2),0) by rw [XA,if_neg (by rw [qx.o];decide),<-El.o,if_neg (by rw [BS.o];decide)]);refine bodyPost_ret (v:=.tuple #[({y with a1:=p,n1:=z,c1:=q,a2:=ma,n2:=A,c2:=s,a3:=t,n3:=B,c3:=u}:FsV).val,.int .i64 0]) ?_ rfl ⟨_,by rw [D.o],by rw [D.o];exact b.o.1,b.o.2.1⟩
 clear l;simp [results,Tryz.results43,go_sem, *]
theorem qve (x:FsV) (f:Fsd) (w:World) (h:RdX w x f) (B:WfX f):
  Calls Tryz.prog 68 #[x.val] w fun e w'=>∃v,e=.returned v∧bB w' w.heap.size v (fO f)∧ah w w':=by
 have C:=ag B;have n:=ag h;clear B h;obtain ⟨p,k⟩:=aj (w.alloc (.cells x.cs 32));have l:ah w p:=by rw [<-k];exact ae
 have D:=ag (show bf p w.heap.size x by rw [<-k];exact Bq.new _ _ _);have q:=ag l;clear l;unfold FsV.val;unfold FsV.cs at k;go_enter Tryz.func68,Tryz.ntmps68;obtain ⟨r,s,t,u,y,z⟩:=aV D.o;have b:=qsj _ _ _ f.2.2.1 p (n.o.fl.a q.o) n.o.n4 C.o.fl;go_wp2_with fail
 try rw [k]
 refine b.mono ?_
 rintro e J ⟨K,rfl,g,d⟩;have E:=ag (D.o.a d);have F:=bT q d;clear b d r s t u y z;try clear k
 obtain ⟨L,i⟩:=ai ((mq f.2.2.1).length);obtain ⟨V,W,M⟩:∃a c,K=.slice a L c:=by rw [i];exact g.form
 subst M;have N:=ag (g.mono q.o.size);have X:=ag i;clear g i;obtain ⟨r,s,t,u,y,z⟩:=aV E.o;have b:=qsj _ _ _ f.2.2.2 J (n.o.kl.a F.o) n.o.n5 C.o.kl;go_wp2_with fail
 refine b.mono ?_
 rintro e Y ⟨O,rfl,j,d⟩;have Z:=ag (E.o.a d);have P:=ag (N.o.a d);have G:=bT F d;clear b d r s t u y z;obtain ⟨Q,A⟩:=ai ((mq f.2.2.2).length);obtain ⟨y3,z3,R⟩:∃a c,O=.slice a Q c:=by rw [A];exact j.form
 subst R;obtain ⟨g9,cc,S,m,H,I⟩:=Er P.o G.o.size j.rd A (by have:=WI f.2.2.1;have:=WI f.2.2.2;omega);have T:=ag (show bB S w.heap.size _ (fO f) from H);have U:=ag (G.o.trans I);clear H I j A;generalize (mq f.2.2.1++mq f.2.2.2).length=gl at *;go_wp2_with (at_builtin;refine ku rfl (.tmp 19) (.tmp 20) 96 rfl rfl rfl rfl m ?_)
 go_ret;exact ⟨_,rfl,T.o,U.o⟩
end Go.Proofs.YthpammbgcidloaaGreat
