/-
  Of the document's side of layer 6: blocksOf, Size, Get.
-/
import Derived.Test.YtmeaiocohalphaaGreatDoorR3
set_option maxHeartbeats 8000000
set_option maxRecDepth 100000
namespace Go.Proofs.YtmeaiocohalphaaGreatDoor
open Go.RowKit
set_option linter.all false
variable {f g:aR}{d:Dk}{v:Value}{s:az}
theorem qal1{a sz c b:Nat}(d:b=2+c%2*16)(e:a=b*128)(f:sz<=2048):wrap64 ((a:Int)+sz)=((a+sz:Nat):Int):=by
 unfold wrap64;omega
theorem qah0(h:jQ f.1≠0):eF f=8:=by
 rcases Aq f with⟨a,_⟩|⟨_,e⟩
 ·exact absurd (Sm (oN a).1) h
 exact e
theorem qx8(h:bD f.1<=34∨bf f.2.2.1 (bD f.1)≠0):eF f=8:=by
 rcases Aq f with⟨a,_⟩|⟨_,e⟩
 ·rcases h with h|h
  ·have:=(oN a).2.1;omega
  exact absurd a.2.2.2.2.2 h
 exact e
theorem qah1{p:Pu}(a:p∈f.1.2.1)(h:p.1<34):eF f=8:=by
 rcases Aq f with⟨b,_⟩|⟨_,e⟩
 ·have:=b.2.2.1 p a;omega
 exact e
theorem kI(h:¬bP f):eF f=8:=by
 rcases Aq f with⟨a,_⟩|⟨_,e⟩
 ·exact absurd a h
 exact e
def Dy (f g:aR):Bool:=decide (f.1=g.1) && decide (f.2.1=g.2.1) && decide (f.2.2.1=g.2.2.1) && decide (f.2.2.2=g.2.2.2)
theorem rZ:Dy f g=true↔f=g:=by
 unfold Dy;simp only[Xe0,decide_eq_true_eq];constructor
 ·rintro⟨⟨⟨a,b⟩,c⟩,d⟩
  obtain⟨e,i,j,k⟩:=f;obtain⟨l,m,n,o⟩:=g;simp only at a b c d
  subst a b c d;rfl
 intro h;subst h;exact⟨⟨⟨rfl,rfl⟩,rfl⟩,rfl⟩
theorem qjo(f:aR):Dy f f=true:=rZ.2 rfl
theorem qqy(h:f≠g):Dy f g=false:=by
 cases e:Dy f g with
 |false=>rfl
 |true=>exact absurd (rZ.1 e) h
theorem Xv(x:aU)(f:aR)(w:World)(h:iJ w x f)(hw:jq f):
  Calls Tryz.prog 55 #[x.val] w fun e w'=>e=.returned (.int .i64 (eF f))∧ah w w':=by
 have HW:=ag hw;have n:=ag h;clear hw h;obtain⟨w1,V⟩:=au (w.alloc (.cells x.cs 33));have W:ah w w1:=by rw[<-V];exact ae
 have pE:=ag (show bB w1 w.heap.size x by rw[<-V];exact Bq.new _ _ _);have bg:=ag W;clear W;unfold aU.val;unfold aU.cs at V;go_enter Tryz.func55,Tryz.ntmps55;obtain⟨t,u,v,y,z,A⟩:=bq pE.o;have l:=qjg (d:=f.1) w1 (n.o.d.a bg.o);go_wp2_with fail
 try rw[V]
 refine l.mono ?_
 rintro e w2⟨rfl,j⟩;have mO:=ag (pE.o.a j);have aY:=bT bg j;clear l j t u v y z A;try clear V
 rcases(Hd f.1).symm with⟨C,D⟩|⟨C,D⟩
 ·rw[D]
  have q:=ag (qah0 (f:=f) (by rw[D];decide));go_wp2;go_ret;rw[q.o];exact⟨rfl,by first|exact aY.o|assumption⟩
 rw[D];have jU:=ag C;clear C D;have X:=ag (show x.n1=128*bD f.1∧bD f.1<=4096 from⟨n.o.n1.trans (Vu jU.o),((sM f.1).1 jU.o).2.2.1⟩);have jy:=ag (show x.n2<=65536 from by rw[n.o.n2];exact((sM f.1).1 jU.o).2.2.2.1);obtain⟨B,hB⟩:∃B:Nat,B=bD f.1:=⟨_,rfl⟩;have Y:=ag hB
 have Z:x.n1 / 128=B:=by have:=X.o;rw[hB];omega
 clear hB;obtain⟨t,u,v,y,z,A⟩:=bq mO.o;have l:=Tm x.a1 x.a2 x.a3 x.n1 x.c1 x.n2 x.c2 x.n3 x.c3 (by rw[n.o.n1];exact n.o.d.d1.len_le) w2;rw[Z]at l;go_wp2_with fail
 refine l.mono ?_
 rintro e w3⟨rfl,j⟩;have EQ:=ag (mO.o.a j);have df:=bT aY j;clear l j t u v y z A;clear Z;by_cases g1:B<=34
 ·have aa:(B:Int)<=34:=by omega
  have q:=ag (qx8 (f:=f) (.inl (by rw[<-Y.o];exact g1)));go_wp2;go_ret;rw[q.o];exact⟨rfl,by first|exact df.o|assumption⟩
 have aa:decide ((B:Int)<=34)=false:=Xd7 (by omega);clear g1;obtain⟨t,u,v,y,z,A⟩:=bq EQ.o;have l:=qC _ _ _ f.2.2.1 B w3 (n.o.fl.a df.o) n.o.n4 HW.o.fl;go_wp2_with fail
 refine l.mono ?_
 rintro e w4⟨rfl,j⟩;have Nz:=ag (EQ.o.a j);have gY:=bT df j;clear l j t u v y z A aa;by_cases S:¬bf f.2.2.1 B=0
 ·have aE:(bf f.2.2.1 B !=0)=true:=by simpa using S
  have q:=ag (qx8 (f:=f) (.inr (by rw[<-Y.o];exact S)));go_wp2;go_ret;rw[q.o];exact⟨rfl,by first|exact gY.o|assumption⟩
 rw[Decidable.not_not]at S;have ai:=ag S;rw[S];clear S;obtain⟨t,u,v,y,z,A⟩:=bq Nz.o;have ay:=jy.o;go_wp2_with fail
 clear t u v y z A;go_loopw [4] (fun i wr=>∃k:Nat,k<=x.n2∧i=.int .i64 k∧af (∀p∈f.1.2.1.take k,34<=p.1)∧af (ah w4 wr)) (fun i _=>x.n2-(intOf i).toNat)
 case atStart=>exact⟨0,Xd5 _,rfl,ag (by simp),ag aF⟩
 obtain⟨k,hk,rfl,E,r⟩:=hrel;have uM:=ag (show ah w wr from gY.o.trans (r.o.mono gY.o.size));have Xw:=ag (Nz.o.a r.o);obtain⟨k0,k1,k2,k3,k4,k5⟩:=bq Xw.o;by_cases aj:k<x.n2
 ·have aD:(k:Int)<x.n2:=by omega
  have K:k<f.1.2.1.length:=by have h2:x.n2=_:=n.o.n2;omega
  obtain⟨b,aH,ea,q0, -⟩:=(n.o.d.d2.a uM.o).at k K;rw[ea]at k1;have GJ:=ag (fun (h:34<=(f.1.2.1[k]).1)=>show ∀p∈f.1.2.1.take (k+1),34<=p.1 by
   intro p H;rw[Xa2 K]at H;rcases Xa5.1 H with H|H
   ·exact E.o p H
   rw[Xb3.1 H];exact h)
  have I:=ag (fun (h:(f.1.2.1[k]).1<34)=>qah1 (Xa3 K) h);obtain⟨N,hN⟩:=ak ((f.1.2.1[k]).1);rw[<-hN]at q0 GJ I;clear hN;by_cases g3:N<34
  ·have al:decide (N<34)=true:=Xd8 g3
   have q:=ag (I.o g3);clear g3;go_wp2;go_ret;rw[q.o];exact⟨rfl,uM.o⟩
  have al:decide (N<34)=false:=Xd7 g3;have am:=ag (GJ.o (by omega));clear g3;go_wp2;go_roundw
  case rel=>exact⟨k+1,by omega,rfl,am,r⟩
  simp only[intOf];omega
 have hd:decide ((k:Int)<x.n2)=false:=Xd7 (by omega);have GJ:=ag (show ∀p∈f.1.2.1,34<=p.1 by
  have:=E.o
  rwa [Xa1 (by have h2:x.n2=_:=n.o.n2;omega)]at this)
 have l:=qvo (d:=f.1) wr (n.o.d.a uM.o);go_wp2_with fail
 refine l.mono ?_
 rintro e FY⟨rfl,j⟩;have Xx:=ag (Xw.o.a j);have FZ:=bT uM j;clear l j k0 k1 k2 k3 k4 k5;clear hd hk aj E r;obtain⟨ge,s,er,hL⟩:∃ge s er,jl f.1=(ge,s,er):=⟨_,_,_,rfl⟩;rw[hL];have HL:=ag hL;clear hL;obtain⟨t,u,v,y,z,A⟩:=bq Xx.o
 by_cases g4:¬er=0
 ·have aJ:(er !=0)=true:=Xe1 g4
  have q:=ag (kI (of_decide_eq_false (za HL.o (.inl g4))));go_wp2;go_ret;rw[q.o];exact⟨rfl,by first|exact FZ.o|assumption⟩
 rw[Decidable.not_not]at g4;subst g4;by_cases g5:¬ge=x.g
 ·have En:¬(ge:Int)=x.g:=by omega
  have q:=ag (kI (of_decide_eq_false (za HL.o (.inr (by rw[<-n.o.g];exact g5)))));go_wp2;go_ret;rw[q.o];exact⟨rfl,by first|exact FZ.o|assumption⟩
 rw[Decidable.not_not]at g5;subst g5;have Br:=ag (qmb HL.o);have an:=ag (qxd HL.o);obtain⟨ar,L⟩:=ak (2+x.g%2*16);have M:=qov x.g FY Br.o.2.1;rw[<-L]at M;have II:=ag L;clear L;go_wp2_with fail
 refine M.mono ?_
 clear M;rintro e ao⟨rfl,BI⟩;subst ao;obtain⟨O,ap,m,hm,aq,C⟩:=Br.o;obtain⟨b9,o9,ea,P⟩:=qxc (n.o.d.d1) (by intro e;rw[e]at m;simp at m;omega);obtain⟨J,F⟩:=ak (ar*128);have av:=U6 II.o F;have ab:=qal1 II.o F O;obtain⟨y1,y2,y3,y4,y5,y6,y7⟩:=IE (n.o.n1.trans m) hm O P II.o F;have Q:=IG (by have:=n.o.d.d1.a FZ.o;rw[ea]at this;exact this) J s (by rw[<-n.o.n1];exact y6) (by intro e;rw[e]at m;simp at m;omega);have ac:(f.1.1.drop J).take s=iX f.1 x.g s:=by unfold iX;rw[F,II.o,Nat.mul_comm]
 rw[ac]at Q;have hR:=qaec _ _ _ (iX f.1 x.g s) B FY Q an.o.symm;have y8:J+s<=x.n1:=y6;have y9:J+s<=x.c1:=aG y6 P;have aw:J<=J+s:=Nat.le_add_right _ _;have ax:J+s-J=s:=Nat.add_sub_cancel_left _ _;clear Q ac O ap m hm aq F C y6 y7 P;rw[ea]at t;rw[Y.o]at hR;obtain⟨RE,yI⟩:=ak (mg (iX f.1 x.g s) (bD f.1));obtain⟨RL,R⟩:=ak (uE (iX f.1 x.g s) (bD f.1));have Jb:=ag yI;have rQ:=ag R;rw[<-yI,<-R,<-Y.o]at hR;clear yI R;go_wp2_with fail
 refine hR.mono ?_
 rintro e wd⟨v5,rfl,ku,j⟩;have NA:=ag (Xx.o.a j);have QI:=bT FZ j;clear t u v y z A j hR av ab y1 y2 y3 y4 y5 y8 y9 aw ax;obtain⟨m5,wW⟩:=ak RL.length;obtain⟨u5,z5,e5⟩:∃a c,v5=.slice a m5 c:=by rw[wW];exact ku.form
 subst e5;have CJ:=ag wW;obtain⟨we,G⟩:=au (wd.alloc (.cells #[.slice u5 m5 z5] 31));have j:ah wd we:=by rw[<-G];exact ae
 have Xy:=ag (ku.rd.a j);have k9:we.cell? ⟨wd.heap.size,0,none⟩=some (.slice u5 m5 z5):=by rw[<-G];simp
 have NB:=ag (NA.o.a j);have NC:=bT QI j;clear ku wW j;have xM:=ag (U7 HL.o n.o.g (by
  rw[List.any_eq_false];intro p H;have:=GJ.o p H
  simp
  omega))
 rw[<-Jb.o,<-rQ.o,<-Y.o,ai.o]at xM;by_cases T:¬RE=0
 ·have Ua:(RE !=0)=true:=Xe1 T
  have q:=ag (kI (of_decide_eq_false (by rw[xM.o,Xd7 T];simp)));go_wp2;go_ret;rw[q.o];exact⟨rfl,by first|exact NC.o|assumption⟩
 rw[Decidable.not_not]at T;have ad:=ag T;rw[T];clear T;obtain⟨t,u,v,y,z,A⟩:=bq NB.o;have l:=qp9 u5 m5 z5 RL x.a5 x.n5 x.c5 f.2.2.2 we Xy.o CJ.o (n.o.kl.a NC.o) n.o.n5;go_wp2_with fail
 try rw[G]
 refine l.mono ?_
 rintro e IV⟨rfl,j⟩;have Xz:=bT NC j;clear l j t u v y z A k9;try clear G
 by_cases U:¬RL=f.2.2.2
 ·rw[Xd7 U]
  have q:=ag (kI (of_decide_eq_false (by rw[xM.o,Xd7 U];simp)));go_wp2;go_ret;rw[q.o];exact⟨rfl,by first|exact Xz.o|assumption⟩
 rw[Decidable.not_not]at U;rw[Xd8 U];have q:=ag (wU (f:=f) (of_decide_eq_true (by rw[xM.o,Xd8 U,Xd8 ad.o];simp)));clear U;go_wp2;go_ret;rw[q.o];exact⟨rfl,Xz.o⟩
theorem qjp(x y:aU)(f g:aR)(w:World)(h:iJ w x f)(L:iJ w y g):
  Calls Tryz.prog 26 #[x.val,y.val] w fun e w'=>e=.returned (.bool (Dy f g))∧ah w w':=by
 have c:=ag h;have i:=ag L;clear h L;obtain⟨F,m⟩:=au ((w.alloc (.cells x.cs 33)).alloc (.cells y.cs 33));have I:ah w (w.alloc (.cells x.cs 33)):=ae;have J:Below (w.alloc (.cells x.cs 33)).heap.size (w.alloc (.cells x.cs 33)) F:=by rw[<-m];exact ae
 have M:=ag (show bB F w.heap.size x from(Bq.new w 33 x.cs).a J);have N:=ag (show bB F (w.heap.size+1) y by have:=Bq.new (w.alloc (.cells x.cs 33)) 33 y.cs;rw[<-m];simpa using this);have K:=ag (I.trans (J.mono I.size));clear I J;unfold aU.val;unfold aU.cs at m;go_enter Tryz.func26,Tryz.ntmps26;obtain⟨n,p,q,r,s,t⟩:=bq M.o;obtain⟨u,v,z,A,B,C⟩:=bq N.o;have a:=qabo (d:=f.1) (e:=g.1) F (c.o.d.a K.o) (i.o.d.a K.o);go_wp2_with fail
 try rw[m]
 refine a.mono ?_
 rintro e Q⟨rfl,b⟩;have O:=ag (M.o.a b);have P:=ag (N.o.a b);have D:=bT K b;clear a b n p q r s t u v z A B C;try clear m
 by_cases k:¬f.1=g.1
 ·rw[Xd7 k]
  have j:=ag (show Dy f g=false from qqy (fun e=>k (by rw[e])));go_wp2;go_ret;rw[j.o];exact⟨rfl,D.o⟩
 rw[Decidable.not_not]at k;rw[Xd8 k];obtain⟨n,p,q,r,s,t⟩:=bq O.o;obtain⟨u,v,z,A,B,C⟩:=bq P.o;by_cases G:¬x.g=y.g
 ·have E:¬(x.g:Int)=y.g:=by omega
  have j:=ag (show Dy f g=false from qqy (fun e=>G (by rw[c.o.g,i.o.g,e])));go_wp2;go_ret;rw[j.o];exact⟨rfl,D.o⟩
 rw[Decidable.not_not]at G;have E:(x.g:Int)=y.g:=by omega
 have R:=ag G;clear G;have a:=qp9 _ _ _ f.2.2.1 _ _ _ g.2.2.1 Q (c.o.fl.a D.o) c.o.n4 (i.o.fl.a D.o) i.o.n4;go_wp2_with fail
 refine a.mono ?_
 rintro e S⟨rfl,b⟩;have T:=ag (O.o.a b);have U:=ag (P.o.a b);have H:=bT D b;clear a b n p q r s t u v z A B C E;by_cases l:¬f.2.2.1=g.2.2.1
 ·rw[Xd7 l]
  have j:=ag (show Dy f g=false from qqy (fun e=>l (by rw[e])));go_wp2;go_ret;rw[j.o];exact⟨rfl,H.o⟩
 rw[Decidable.not_not]at l;rw[Xd8 l];obtain⟨n,p,q,r,s,t⟩:=bq T.o;obtain⟨u,v,z,A,B,C⟩:=bq U.o;have a:=qp9 _ _ _ f.2.2.2 _ _ _ g.2.2.2 S (c.o.kl.a H.o) c.o.n5 (i.o.kl.a H.o) i.o.n5;go_wp2_with fail
 refine a.mono ?_
 rintro e W⟨rfl,b⟩;have V:=bT H b;clear a b n p q r s t u v z A B C;have j:=ag (show Dy f g=decide (f.2.2.2=g.2.2.2)by
  unfold Dy;rw[Xd8 k,Xd8 l,Xd8 (show f.2.1=g.2.1 by have X:x.g=_:=c.o.g;have Y:y.g=_:=i.o.g;have:=R.o;omega)];simp)
 clear k l;go_wp2;go_ret;rw[j.o];exact⟨rfl,V.o⟩
structure wN where
 (a1:aA) (n1 c1:Nat) (a2:aA) (n2 c2:Nat) (a3:aA) (n3 c3:Nat)
theorem qah3(w:World)(b:kN w v d)(c:d.1.length<=140737488355328)(f:d.2.1.length<=1000000)(g:d.2.2.length<=1000000)(d2:∀p∈d.2.1,p.2.length<=140737488355328)(h:∀p∈d.2.2,p.2.2.length<=140737488355328):
  Calls Tryz.prog 53 #[v] w fun e w'=>∃v',e=.returned v'∧kP w' w.heap.size v' d∧ah w w':=by
 refine(qwq w b c f g d2 h).mono ?_
 rintro e w'⟨x,y,z,B,rfl,a,i,_,j,k,_,l⟩;exact⟨_,rfl,⟨x,y,z,rfl,i,j.mono a,k.mono a⟩,l⟩
theorem vG(x:aU)(f:aR)(w:World)(h:iJ w x f)(C:(f.1.1.length<=140737488355328∧f.1.2.1.length<=1000000∧f.1.2.2.length<=1000000)∧f.2.2.1.length<=1000∧(∀g∈f.2.2.1,g.2.length<=1000000)∧f.2.2.2.length<=1000∧∀g∈f.2.2.2,g.2.length<=1000000)(D:(∀p∈f.1.2.1,p.2.length<=140737488355328)∧∀p∈f.1.2.2,p.2.2.length<=140737488355328):
  Calls Tryz.prog 20 #[x.val] w fun e w'=>∃y:aU,e=.returned y.val∧bH w' w.heap.size y.val f∧ah w w':=by
 have t:=ag C;have E:=ag D;have s:=ag h;clear C D h;obtain⟨F,G⟩:=au ((w.alloc (.cells x.cs 33)).alloc (.cells #[.slice none 0 0,.slice none 0 0,.slice none 0 0,.int .u32 0,.slice none 0 0,.slice none 0 0] 33));have N:ah w (w.alloc (.cells x.cs 33)):=ae;have O:Below (w.alloc (.cells x.cs 33)).heap.size (w.alloc (.cells x.cs 33)) F:=by rw[<-G];exact ae
 have Y:=ag (show bB F w.heap.size x from(Bq.new w 33 x.cs).a O);have H:=ag (show dW F (w.heap.size+1)by have:=dW.new (w.alloc (.cells x.cs 33));rw[<-G];simpa using this);have Z:=ag (N.trans (O.mono N.size));clear N O;unfold aU.val;unfold aU.cs at G;go_enter Tryz.func20,Tryz.ntmps20;go_wp2_with fail
 try rw[G]
 clear G;have I:aN (fun l=>(bB l w.heap.size x∧dW l (w.heap.size+1))∧ah w l):=fun F w2 h P=>⟨⟨h.1.1.a P,h.1.2.a P⟩,h.2.trans (P.mono h.2.size)⟩
 refine iH I (by kernel_rfl) ⟨⟨Y.o,H.o⟩,Z.o⟩ ?_
 intro j;clear Y H Z;generalize F.drew=wd at *;refine rP [0,1,3,4,5,6,8,9] 5 ?jS ?dP j ?jT
 case dP=>
  iterate 8 (apply Yl.cons rfl (by kernel_rfl);focus (rintro l⟨⟨A,L⟩,M⟩;(obtain⟨k0,k1,k2,k3,k4,k5⟩:=bq A);go_simp<;>rfl);try simp only[aB])
  exact Yl.nil
 refine pR (i:=2) (R:=fun v l=>∃b:wN,v=.agg #[.slice b.a1 b.n1 b.c1,.slice b.a2 b.n2 b.c2,.slice b.a3 b.n3 b.c3]∧kP l w.heap.size (.agg #[.slice b.a1 b.n1 b.c1,.slice b.a2 b.n2 b.c2,.slice b.a3 b.n3 b.c3]) f.1∧ah wd l) rfl (by kernel_rfl) (by kernel_rfl) (by obtain⟨⟨A,L⟩,M⟩:=j;go_simp;try rfl) ((qah3 (d:=f.1) wd (s.o.d.a j.2) t.o.1.1 t.o.1.2.1 t.o.1.2.2 E.o.1 E.o.2).mono fun e l ⟨v,h1,h2,h3⟩=>by
   obtain⟨a1,c1,a2,c2,a3,c3,J⟩:=h2.form;subst J;exact⟨_,h1,⟨a1,_,c1,a2,_,c2,a3,_,c3⟩,rfl,h2.mono j.2.size,h3⟩) ?_
 rintro v9 wA⟨b,rfl,B,k⟩;have q:=I _ _ j k;refine⟨q, ?_⟩;clear j;have j:=q;clear q k;try simp only[aB]
 refine pR (i:=7) (R:=fun v l=>∃a n c,v=.agg #[.slice a n c]∧bi l w.heap.size (.slice a n c) f.2.2.1∧ah wA l) rfl (by kernel_rfl) (by kernel_rfl) (by obtain⟨⟨A,L⟩,M⟩:=j;go_simp;try rfl) ((qoi _ _ _ f.2.2.1 wA (s.o.fl.a j.2) s.o.n4 (by have h4:x.n4=_:=s.o.n4;have:=t.o.2.1;omega) t.o.2.2.1).mono fun e l ⟨v,h1,h2,h3⟩=>by
   obtain⟨a,c,J⟩:=h2.form;subst J;exact⟨_,h1,a,_,c,rfl,h2.mono j.2.size,h3⟩) ?_
 rintro v9 wB⟨Q,S,T,rfl,r,k⟩;have q:=I _ _ j k;refine⟨q, ?_⟩;have B:=B.a k;clear j;have j:=q;clear q k;try simp only[aB]
 refine pR (i:=10) (R:=fun v l=>∃a n c,v=.agg #[.slice a n c]∧bi l w.heap.size (.slice a n c) f.2.2.2∧ah wB l) rfl (by kernel_rfl) (by kernel_rfl) (by obtain⟨⟨A,L⟩,M⟩:=j;go_simp;try rfl) ((qoi _ _ _ f.2.2.2 wB (s.o.kl.a j.2) s.o.n5 (by have h4:x.n5=_:=s.o.n5;have:=t.o.2.2.2.1;omega) t.o.2.2.2.2).mono fun e l ⟨v,h1,h2,h3⟩=>by
   obtain⟨a,c,J⟩:=h2.form;subst J;exact⟨_,h1,a,_,c,rfl,h2.mono j.2.size,h3⟩) ?_
 rintro v9 wC⟨U,V,W,rfl,bK,k⟩;have q:=I _ _ j k;refine⟨q, ?_⟩;have B:=B.a k;have r:=r.a k;clear j;have j:=q;clear q k;try simp only[aB]
 refine rT 11 ?qtv11 rfl ?XL j ?qtr11
 case XL=>(rintro l⟨⟨A,L⟩,M⟩;(obtain⟨k0,k1,k2,k3,k4,k5⟩:=bq A);go_simp<;>rfl)
 try simp only[aB]
 have hv:bH wC w.heap.size (⟨b.a1,b.n1,b.c1,b.a2,b.n2,b.c2,b.a3,b.n3,b.c3,x.g,Q,S,T,U,V,W⟩:aU).val f:=⟨_,_,_,_,_,by rw[<-s.o.g],B,r,bK⟩;have m:=hv.assign j.1.2 j.2 (by omega);obtain⟨⟨d0,e0⟩,⟨d1,e1⟩,⟨d2,e2⟩,⟨d3,e3⟩,⟨d4,e4⟩,⟨d5,e5⟩,u⟩:=j.1.2.cells;have f0:=u 0;have f1:=u 1;have f2:=u 2;have f3:=u 3;have f4:=u 4;have f5:=u 5;obtain⟨wE,K⟩:=au (bQ wC (w.heap.size+1) ⟨b.a1,b.n1,b.c1,b.a2,b.n2,b.c2,b.a3,b.n3,b.c3,x.g,Q,S,T,U,V,W⟩);rw[K]at m;have X:(fun l=>(bB l w.heap.size x∧dW l (w.heap.size+1))∧ah w l) wE:=⟨⟨j.1.1.grown m.2.2.2.2 (by omega),dW.of m.2.2.1⟩,m.2.1⟩;have z:=ag m;unfold bQ at K;dsimp only at K;clear u m hv;refine Em (i:=12) (w':=wE) rfl (by kernel_rfl) (by kernel_rfl) (by rw[<-K];go_simp) X ?_
 clear j K e0 e1 e2 e3 e4 e5 f0 f1 f2 f3 f4 f5;have j:=X;clear X;try simp only[aB]
 refine rD ?_
 try simp only[aB]
 clear j I B r bK;obtain⟨z0,z1,z2,z3,z4,z5⟩:=bq z.o.2.2.1;dsimp only at z0 z1 z2 z3 z4 z5;go_wp2;try simp only[Exit.inBlock,Exit.then]
 refine bodyPost_ret (v:=(⟨b.a1,b.n1,b.c1,b.a2,b.n2,b.c2,b.a3,b.n3,b.c3,x.g,Q,S,T,U,V,W⟩:aU).val) ?_ rfl ⟨_,rfl,z.o.1,z.o.2.1⟩
 simp[results,Tryz.results20,go_sem, *]
theorem qzu(n:Int)(l:List Pu)(k:Nat)(a:k<l.length):jR n (l.take (k+1))=if n=(l[k]).1 then some (l[k]).2 else jR n (l.take k):=by
 rw[Xa2 a,qje]
theorem qx9{n:Int}{l:List Pu}(k:Nat)(a:k<l.length)(h:jR n l=jR n (l.take (k+1))):jR n l=if n=(l[k]).1 then some (l[k]).2 else jR n (l.take k):=h.trans (qzu n l k a)
theorem qah4(k cnt:Nat)(w:World)(F:kN w v d)(A:mR cnt d)(hk:k<cnt)(G:cnt<=4096):
  Calls Tryz.prog 200 #[v,.int .i64 k] w fun e w'=>∃H,e=.returned H∧bG w' w.heap.size H (dF d k)∧ah w w':=by
 obtain⟨a1,c1,a2,c2,a3,c3,rfl,I,J,_⟩:=F.form;have T:=ag I;have U:=ag J;have K:=ag A;have V:d.2.1.length<=65536:=A.2.1;clear F I J A;generalize e1:d.1.length=n1 at *;generalize L:d.2.1.length=n2 at *;generalize W:d.2.2.length=n3 at *;have E1:=ag e1;have M:=ag L;clear e1 L W;obtain⟨u,z⟩:=au (w.alloc (.cells #[.slice a1 n1 c1,.slice a2 n2 c2,.slice a3 n3 c3] 27));have b:ah w u:=by rw[<-z];exact ae
 have k0:u.cell? ⟨w.heap.size,0,none⟩=some (.slice a1 n1 c1):=by rw[<-z];simp
 have k1:u.cell? ⟨w.heap.size,1,none⟩=some (.slice a2 n2 c2):=by rw[<-z];simp
 have g:=b.size;go_enter Tryz.func200,Tryz.ntmps200;go_wp2;clear z;go_loopw [5] (fun i wr=>∃j:Nat,j<=n2∧i=.int .i64 ((j:Int)-1)∧af (jR k d.2.1=jR k (d.2.1.take j))∧wr=u) (fun i _=>(intOf i+1).toNat)
 case atStart=>
  refine⟨n2,Nat.le_refl _,by go_num, ?_,rfl⟩;show _=_
  rw[Xa1 (by have:=M.o;omega)]
 obtain⟨j,X,rfl,hl,rfl⟩:=hrel;cases j with
 |zero=>
  have O:decide ((0:Int)<=((0:Nat):Int)-1)=false:=by decide
  have B:=ag (show dF d k=blk d.1 k by
   unfold dF;have:=hl.o
   rw[Xc2]at this;rw[this];rfl)
  have l:d.1.length=128*cnt:=K.o.1;obtain⟨Y,Z,rfl,P,aa,n⟩:=Fj (T.o.a b) (k*128) (k*128+128) (by omega) (by omega);have Q:(d.1.drop (k*128)).take (k*128+128-k*128)=blk d.1 k:=by
   unfold blk;rw[show k*128+128-k*128=128 by omega,Nat.mul_comm]
  rw[Q]at n;have Fq:n1=128*cnt:=by rw[P];exact l
  have Qg:=ag (show(blk d.1 k).length=128 by unfold blk;rw[Xa4,Xa9];omega);have ab:wrap64 ((k:Int)*128)=((k*128:Nat):Int):=by unfold wrap64;omega
  have ac:wrap64 (((k*128:Nat):Int)+128)=((k*128+128:Nat):Int):=by unfold wrap64;omega
  have ad:k*128+128<=n1:=by omega
  have G9:¬k*128=c1:=by omega
  have ai:k*128+128<=c1:=by omega
  obtain⟨v',w',c,r,f⟩:=qc wr wr.heap.size aL (.slice none 0 0) [] (Xa7 _ _ _ _) _ _ n (by rw[Qg.o];decide);have p:ah w w':=b.grown f g (fun q C=>by cases C);have D:=ag ((show bG w' wr.heap.size v' (blk d.1 k)from r).mono g);clear hl n Fq P l Q r f X;go_wp2_with (at_builtin;go_must (refine qfj wr rfl _ (.tmp 36) 23 rfl (v:=_) (y:=.slice (some ⟨Y,Z+k*128,none⟩) (k*128+128-k*128) (c1-k*128)) rfl rfl c ?_))
  go_ret;rw[B.o];exact⟨_,rfl,D.o,p⟩
 |succ j=>
  have h:j<d.2.1.length:=by have:=M.o;omega
  have s:(((j+1:Nat):Int)-1)=(j:Int):=by omega
  rw[s];obtain⟨b2,o2,rfl,q0,x,m,c',q1,E,R⟩:=(U.o.a b).at j h;have aj:(j:Int)<n2:=by omega
  by_cases a:(d.2.1[j]).1=k
  ·have B:=ag (show dF d k=(d.2.1[j]).2 by
    unfold dF;rw[qx9 j h hl.o,if_pos a.symm];rfl)
   have t:(d.2.1[j]).2.length=128:=(wM (K.o.2.2.2 _ (Xa3 h))).2.2;rw[a]at q0;obtain⟨v',w',c,r,f⟩:=qc wr wr.heap.size aL (.slice none 0 0) [] (Xa7 _ _ _ _) _ _ E (by rw[t];decide);have p:ah w w':=b.grown f g (fun q C=>by cases C);have D:=ag ((show bG w' wr.heap.size v' (d.2.1[j]).2 from r).mono g);clear hl r f E R a t s;go_wp2_with (at_builtin;go_must (refine qfj wr rfl _ (.tmp 27) 23 rfl (v:=_) (y:=.slice x m c') rfl rfl c ?_))
   go_ret;rw[B.o];exact⟨_,rfl,D.o,p⟩
  have HL:=ag (show jR k d.2.1=jR k (d.2.1.take j)by rw[qx9 j h hl.o,if_neg (fun e=>a e.symm)]);have S:((d.2.1[j]).1==(k:Int))=false:=by simpa using a
  generalize (d.2.1[j]).1=N at *;clear hl E R a;go_wp2;go_roundw
  case rel=>exact⟨j,by omega,by go_num,HL.o,trivial⟩
  simp[intOf]<;>omega
theorem qaee(h:bP f)(a:iq f.2.2.1 s=0):iL f s=0∧dB f s=0∧aZ f s=wS (fO f.2.2.1 s):=by
 obtain⟨l,hl⟩:=(Ei _ _).1 (qnc a).2.2;have b:=CU h hl;exact⟨b.2.2.1,b.2.2.2.2,by unfold aZ;rw[if_neg (by rw[a];decide)]⟩
theorem qah5(h:bP f)(a:iq f.2.2.1 s≠0):dB f s=iq f.2.2.1 s∧aZ f s=[]:=by
 refine⟨by unfold dB iL;rw[if_neg (by rw[wU h];decide),if_pos a],by unfold aZ;rw[if_pos a]⟩
def ER (f:aR) (s:az):List Int:=if eF f≠0 then[]else aZ f s
theorem EX(h:bP f)(s:az):ER f s=aZ f s:=by unfold ER;rw[if_neg (by rw[wU h];decide)]
theorem Mc(h:eF f≠0)(s:az):ER f s=[]:=by unfold ER;rw[if_pos h]
theorem qah6(h:eF f≠0)(s:az):dB f s=eF f∧uT f s=0:=by unfold dB uT;rw[if_pos h,if_pos h];exact⟨rfl,rfl⟩
theorem qah7(f:aR)(s:az):uT f s=(ER f s).length:=by
 unfold uT ER;by_cases h:eF f≠0
 ·rw[if_pos h,if_pos h];rfl
 rw[if_neg h,if_neg h]
theorem qev(x:aU)(f:aR)(s:az)(w:World)(h:iJ w x f)(N:jq f):
  Calls Tryz.prog 125 #[x.val,.string (bs s)] w fun e w'=>∃v,e=.returned (.tuple #[v,.int .i64 (dB f s)])∧lZ w' w.heap.size v (ER f s)∧ah w w':=by
 have y:=ag N;have z:=ag h;clear N h;obtain⟨A,m⟩:=au (w.alloc (.cells x.cs 33));have n:ah w A:=by rw[<-m];exact ae
 have O:=ag (show bB A w.heap.size x by rw[<-m];exact Bq.new _ _ _);have P:=ag n;clear n;unfold aU.val;unfold aU.cs at m;go_enter Tryz.func125,Tryz.ntmps125;obtain⟨B,C,D,E,F,G⟩:=bq O.o;have b:=Xv x f A (z.o.a P.o) y.o;go_wp2_with fail
 try rw[m]
 refine b.mono ?_
 rintro e W⟨rfl,g⟩;have X:=ag (O.o.a g);have H:=bT P g;clear b g B C D E F G;try clear m
 rcases(Aq f).symm with⟨_,d⟩|⟨p,d⟩
 ·have i:=ag (qah6 (f:=f) (by rw[d];decide) s)
  have q:=ag (Mc (f:=f) (by rw[d];decide) s);rw[d]at i⊢;clear d;go_wp2;go_ret2;rw[i.o.1,q.o];exact⟨_,rfl,Xa7 _ _ _ _,H.o⟩
 rw[d];clear d;have t:=ag p;clear p;obtain⟨B,C,D,E,F,G⟩:=bq X.o;have b:=qsq _ _ _ f.2.2.1 s W (z.o.fl.a H.o) z.o.n4 y.o.fl;go_wp2_with fail
 refine b.mono ?_
 rintro e I⟨Y,rfl,j,g⟩;have Z:=bT H g;clear b g B C D E F G;obtain⟨u,k⟩:=ak ((og f.2.2.1 s).2.length);obtain⟨J,K,e2⟩:∃a c,Y=.slice a u c:=by rw[k];exact j.form
 subst e2;have Q:=ag j.rd;have R:=ag k;clear j k;obtain⟨n9,S⟩:=ak ((og f.2.2.1 s).1);rw[<-S];clear S;obtain⟨L,M⟩:=au (I.alloc (.cells #[.string (bs n9),.slice J u K] 98));have l:ah I L:=by rw[<-M];exact ae
 have T:=bT Z l;have U:=ag (Q.o.a l);have k9:L.cell? ⟨I.heap.size,1,none⟩=some (.slice J u K):=by rw[<-M];simp
 clear l Q;by_cases d:¬iq f.2.2.1 s=0
 ·have i:=ag (qah5 t.o d)
  have q:=ag (EX t.o s);go_wp2;go_ret2;rw[q.o,i.o.1,i.o.2];exact⟨_,rfl,Xa7 _ _ _ _,by assumption⟩
 rw[Decidable.not_not]at d;have i:=ag (qaee t.o d);have q:=ag (EX t.o s);rw[qsu d]at U R;rw[d];clear d;have b:=quz J u K (fO f.2.2.1 s) L U.o R.o (Vb y.o.fl s);go_wp2_with fail
 try rw[M]
 refine b.mono ?_
 rintro e w4⟨v4,rfl,V,r⟩;have gY:=bT T r;have kV:=ag (V.mono T.o.size);clear r V k9 b;go_wp2;go_ret2;rw[q.o,i.o.2.1,i.o.2.2];exact⟨_,rfl,kV.o,gY.o⟩
theorem qzv(x:aU)(f:aR)(s:az)(w:World)(h:iJ w x f)(m:jq f):
  Calls Tryz.prog 127 #[x.val,.string (bs s)] w fun e w'=>e=.returned (.tuple #[.int .i64 (uT f s),.int .i64 (dB f s)])∧ah w w':=by
 have p:=ag m;have q:=ag h;clear m h;obtain⟨l,i⟩:=au (w.alloc (.cells x.cs 33));have j:ah w l:=by rw[<-i];exact ae
 have r:=ag (show bB l w.heap.size x by rw[<-i];exact Bq.new _ _ _);have n:=ag j;clear j;unfold aU.val;unfold aU.cs at i;go_enter Tryz.func127,Tryz.ntmps127;obtain⟨t,u,v,y,z,A⟩:=bq r.o;have b:=qev x f s l (q.o.a n.o) p.o;go_wp2_with fail
 try rw[i]
 refine b.mono ?_
 rintro e G⟨B,rfl,d,k⟩;have C:=bT n k;clear b k t u v y z A;try clear i
 obtain⟨D,g⟩:=ak ((ER f s).length);obtain⟨H,I,E⟩:∃a c,B=.slice a D c:=by rw[g];exact d.rd6.form
 subst E;have J:=ag d.rd6;have F:=ag g;clear d g;go_wp2;go_ret2;rw[qah7,<-F.o];exact⟨rfl,C.o⟩
theorem qal3(h:dB f s≠0)(i:Int):mW f s i=dB f s∧mq f s i=[]:=by
 unfold dB at h⊢;unfold mW mq;by_cases a:eF f≠0
 ·rw[if_pos a,if_pos a,if_pos a];exact⟨rfl,rfl⟩
 rw[if_neg a]at h
 have e:jD f s i=iL f s:=by unfold jD;rw[if_pos h]
 rw[if_neg a,if_neg a,if_neg a,e,if_pos h,if_pos h];exact⟨rfl,rfl⟩
theorem XN(h:dB f s=0){i:Int}(hi:i<0∨((aZ f s).length:Int)<=i):mW f s i=2∧mq f s i=[]:=by
 obtain⟨a,b,_⟩:=MI h;have e:jD f s i=2:=by unfold jD;rw[if_neg (by rw[b];decide),if_pos hi]
 have e0:eF f=0:=by first|exact a|exact wU a
 unfold mW mq;simp[e0,e]
theorem gq(h:dB f s=0):bP f:=by
 rcases Aq f with⟨a,_⟩|⟨_,e⟩
 ·exact a
 unfold dB at h;rw[if_pos (by rw[e];decide),e]at h;cases h
theorem Vo(x:aU)(f:aR)(s:az)(i:Int)(w:World)(h:iJ w x f)(Z:jq f):
  Calls Tryz.prog 128 #[x.val,.string (bs s),.int .i64 i] w fun e w'=>∃v,e=.returned (.tuple #[v,.int .i64 (mW f s i)])∧bG w' w.heap.size v (mq f s i)∧ah w w':=by
 have HW:=ag Z;have HX:=ag h;clear Z h;obtain⟨E,y⟩:=au (w.alloc (.cells x.cs 33));have z:ah w E:=by rw[<-y];exact ae
 have pE:=ag (show bB E w.heap.size x by rw[<-y];exact Bq.new _ _ _);have bg:=ag z;clear z;unfold aU.val;unfold aU.cs at y;go_enter Tryz.func128,Tryz.ntmps128;obtain⟨I,J,K,L,M,N⟩:=bq pE.o;have l:=qev x f s E (HX.o.a bg.o) HW.o;go_wp2_with fail
 try rw[y]
 refine l.mono ?_
 rintro e F⟨v2,rfl,n,b⟩;have mO:=ag (pE.o.a b);have p:=bT bg b;clear l b I J K L M N;try clear y
 obtain⟨G,q⟩:=ak ((ER f s).length);obtain⟨y2,z2,e2⟩:∃a c,v2=.slice a G c:=by rw[q];exact n.rd6.form
 subst e2;have iC:=ag n.rd6;have O:=ag q;clear n q;by_cases t:¬dB f s=0
 ·have m:=ag (qal3 t i)
  go_wp2;go_ret2;rw[m.o.1,m.o.2];exact⟨_,rfl,Xa7 _ _ _ _,p.o⟩
 rw[Decidable.not_not]at t;have A:=ag t;have HL:=ag (EX (gq t) s);rw[HL.o]at O iC;rw[t];clear t;by_cases g2:i<0
 ·have m:=ag (XN A.o (.inl g2))
  go_wp2;go_ret2;rw[m.o.1,m.o.2];exact⟨_,rfl,Xa7 _ _ _ _,p.o⟩
 by_cases g3:(G:Int)<=i
 ·have m:=ag (XN A.o (.inr (by rw[<-O.o];exact g3)))
  go_wp2;go_ret2;rw[m.o.1,m.o.2];exact⟨_,rfl,Xa7 _ _ _ _,p.o⟩
 obtain⟨k,P⟩:∃k:Nat,(k:Int)=i:=⟨i.toNat,by omega⟩;subst P
 have Q:k<(aZ f s).length:=by rw[<-O.o];omega
 have aa:decide ((k:Int)<0)=false:=Xd7 g2;have ab:decide ((G:Int)<=k)=false:=Xd7 g3;have ac:(k:Int)<G:=by omega
 obtain⟨S,T,el,B⟩:=iC.o.at6 k Q;subst el;have H:=ag (QK A.o Q);have U:=ag (EE A.o _ (Xa3 Q));obtain⟨u,tQ⟩:∃u:Nat,(u:Int)=(aZ f s)[k]:=⟨((aZ f s)[k]).toNat,by have:=U.o.1;omega⟩;rw[<-tQ]at B H U;rw[Int.toNat_natCast]at H;clear tQ;have zY:=ag (show gQ F S (T+k) (.int .i64 (u:Int))from B);have C:=ag (mR.of_ok (oN (gq A.o)).1);clear B
 go_wp2_with fail
 have V:aN (fun g=>ah F g):=fun E F h hb=>h.trans (hb.mono h.size)
 refine iH V (by kernel_rfl) aF ?_
 intro j;generalize F.drew=wdd at *;refine rP [0,1,2,3,4,5] 3 ?jS ?dP j ?jT
 case dP=>
  iterate 6 (apply Yl.cons rfl (by kernel_rfl);focus (rintro g r;(obtain⟨I,J,K,L,M,N⟩:=bq (mO.o.a r));have B:g.cell? ⟨S,T+k,none⟩=some (.int .i64 (u:Int)):=zY.o.a r;clear r;go_simp<;>rfl);try simp only[aB])
  exact Yl.nil
 refine pR (i:=6) (R:=fun v g=>bG g w.heap.size v (mq f s k)∧ah wdd g) rfl (by kernel_rfl) (by kernel_rfl) (by go_simp;first|done|rfl) ((qah4 (d:=f.1) u (bD f.1) wdd (HX.o.d.a (p.o.trans (j.mono p.o.size))) C.o.1 (by have:=U.o.2;omega) C.o.2.2).mono fun e g ⟨v,h1,h2,h3⟩=>by
  rw[H.o.2.2.2];exact⟨_,h1,h2.mono (aG p.o.size j.size),h3⟩) ?_
 rintro bv wg⟨D,b⟩;have W:=V _ _ j b;refine⟨W, ?_⟩;clear j b;have j:=W;clear W;try simp only[aB]
 refine rP [7,8] 0 ?oI ?iA j ?oJ
 case iA=>
  iterate 2 (apply Yl.cons rfl (by kernel_rfl);focus (rintro g r;(obtain⟨I,J,K,L,M,N⟩:=bq (mO.o.a r));have B:g.cell? ⟨S,T+k,none⟩=some (.int .i64 (u:Int)):=zY.o.a r;clear r;go_simp<;>rfl);try simp only[aB])
  exact Yl.nil
 refine rD ?_
 try simp only[aB]
 have X:=ag D;have Y:=bT p j;clear D j V;go_wp2;go_ret2;rw[H.o.2.2.1];exact⟨_,rfl,X.o,Y.o⟩
end Go.Proofs.YtmeaiocohalphaaGreatDoor
