/-
  Of the document's side of layer 5: TwinFile, Twin, without, with.
-/
import Derived.Test.YtmeaiocohalphaaGreatDoorRmRef
set_option maxHeartbeats 4000000
set_option maxRecDepth 100000
namespace Go.Proofs.YtmeaiocohalphaaGreatDoor
open Go.RowKit
set_option linter.all false
variable {B q r x:Nat}{dv v:Value}{w:World}
theorem qsm(s:az)(w:World):Calls Tryz.prog 188 #[.string (bs s)] w fun e w'=>e=.returned (.bool (gT s))∧ah w w':=by
 have d:=rf s;have c:=ag (show gT s=(decide ((1:Int)<=s.length) && decide ((s.length:Int)<=16))by
  unfold gT;congr 1<;>exact decide_eq_decide.2 (by omega))
 generalize s.length=n at *;by_cases f:1<=n
 ·have a:(1:Int)<=n:=by omega
  by_cases g:n<=16
  ·have b:(n:Int)<=16:=by omega
   go_enter Tryz.func188,Tryz.ntmps188;go_wp2;go_ret;exact⟨by rw[c.o];simp[a,b],aF⟩
  have b:decide ((n:Int)<=16)=false:=aC (by omega);go_enter Tryz.func188,Tryz.ntmps188;go_wp2;go_ret;exact⟨by rw[c.o,b];simp,aF⟩
 have a:decide ((1:Int)<=n)=false:=aC (by omega);go_enter Tryz.func188,Tryz.ntmps188;go_wp2;go_ret;exact⟨by rw[c.o,a];simp,aF⟩
theorem qj3(B:Int)(w:World):Calls Tryz.prog 187 #[.int .i64 B] w fun e w'=>e=.returned (.bool (decide (eX B)))∧ah w w':=by
 have a:=ag (show decide (eX B)=(decide (34<B) && decide (B<=4096))by unfold eX;exact Bool.decide_and ..);by_cases d:34<B
 ·by_cases f:B<=4096
  ·go_enter Tryz.func187,Tryz.ntmps187
   go_wp2;go_ret;exact⟨by rw[a.o];simp[d,f],aF⟩
  have b:decide (B<=4096)=false:=by simpa using f
  go_enter Tryz.func187,Tryz.ntmps187;go_wp2;go_ret;exact⟨by rw[a.o,b];simp,aF⟩
 have c:decide (34<B)=false:=by simpa using d
 go_enter Tryz.func187,Tryz.ntmps187;go_wp2;go_ret;exact⟨by rw[a.o,c];simp,aF⟩
theorem ql6(a:aA)(n c:Nat)(fs:List Fl)(s:az)(w:World)(u:fQ w (.slice a n c) fs)(C:n=fs.length)(J:n<=1000):
  Calls Tryz.prog 194 #[.agg #[.slice a n c],.string (bs s)] w fun e w'=>((e=.returned (.int .i64 (-1))∧iF fs s=false)∨∃t,∃h:t<fs.length,e=.returned (.int .i64 t)∧(fs[t]).1=s∧iF fs s=true)∧ah w w':=by
 have K:=ag u;have D:=ag C;obtain⟨z,g⟩:=ak (w.alloc (.cells #[.slice a n c] 31));have v:ah w z:=by rw[g];exact ae
 have A:=ag (show aX z w.heap.size (.slice a n c)by rw[g];exact aX.new w _);have y:=ag v;clear u C v;go_enter Tryz.func194,Tryz.ntmps194;go_wp2;rw[<-g];clear g;go_loopw [5] (fun i wr=>∃k:Nat,k<=n∧i=.int .i64 k∧af (∀f∈fs.take k,f.1≠s)∧ah z wr) (fun i _=>n-(intOf i).toNat)
 case atStart=>exact⟨0,Xd5 _,rfl,ag (by simp),aF⟩
 obtain⟨k,R,rfl,p,d⟩:=hrel;have S:=(A.o.a d).cell;have q:ah w wr:=y.o.trans (d.mono y.o.size);by_cases L:k<n
 ·have E:(k:Int)<n:=by omega
  have j:k<fs.length:=by have:=D.o;omega
  have F:=ag (qF fs k j);have M:wrap64 ((k:Int)+1)=(k:Int)+1:=wQ (by omega);obtain⟨b,N,a2,c2,rfl,G,O,P⟩:=K.o.atB q k j;clear O P;obtain⟨f,m⟩:=ak (fs[k]);rw[<-m]at G F;have H:=ag m;clear m;obtain⟨x,l⟩:=f;simp only at G
  by_cases r:x=s
  ·have B:((bs x).toList==(bs s).toList)=true:=by rw[zq,r];simp
   have I:=ag r;clear r;go_wp2;go_ret;refine⟨.inr ⟨k,j,rfl,by rw[<-H.o];exact I.o, ?_⟩,q⟩;exact(Ei fs s).2 ⟨l,by rw[<-I.o,H.o];exact Xa3 j⟩
  have B:((bs x).toList==(bs s).toList)=false:=by rw[zq];simpa using r
  have Q:=ag (show ∀f∈fs.take (k+1),f.1≠s by
   rw[F.o];intro f m;rcases Xa5.1 m with m|m
   ·exact p.o f m
   obtain rfl:f=(x,l):=by simpa using m
   exact r)
  clear r;go_wp2;go_roundw
  case rel=>exact⟨k+1,by omega,rfl,Q,d⟩
  simp only[intOf];omega
 have T:decide ((k:Int)<n)=false:=aC (by omega);have e:k=fs.length:=by have:=D.o;omega
 rw[e,Xb5]at p;clear e;go_wp2;go_ret;refine⟨.inl ⟨rfl, ?_⟩,q⟩;cases hq:iF fs s with
 |false=>rfl
 |true=>
  obtain⟨l,hl⟩:=(Ei fs s).1 hq;exact absurd rfl (p.o _ hl)
theorem ql7(a:aA)(n c:Nat)(fs:List Fl)(w:World)(t:fQ w (.slice a n c) fs)(F:n=fs.length)(N:n<=1000)(G:(cz fs).length<=1000000):
  Calls Tryz.prog 190 #[.agg #[.slice a n c]] w fun e w'=>∃v,e=.returned v∧bA w' w.heap.size v (cz fs)∧ah w w':=by
 have O:=ag t;have H:=ag F;have P:=ag G;obtain⟨z,j⟩:=ak (w.alloc (.cells #[.slice a n c] 31));have u:ah w z:=by rw[j];exact ae
 have C:=ag (show aX z w.heap.size (.slice a n c)by rw[j];exact aX.new w _);have q:=ag u;clear t F u G;go_enter Tryz.func190,Tryz.ntmps190;go_wp2;rw[<-j];clear j;go_loopw [3,4] (fun v i wr=>∃k:Nat,k<=n∧i=.int .i64 k∧af (bA wr z.heap.size v (cz (fs.take k)))∧ah z wr) (fun _ i _=>n-(intOf i).toNat)
 case atStart=>exact⟨0,Xd5 _,rfl,ag (by simpa [cz]using bA.nil _ _),aF⟩
 obtain⟨k,W,rfl,d,h⟩:=hrel;have X:=(C.o.a h).cell;have r:ah w wr:=q.o.trans (h.mono q.o.size);by_cases Q:k<n
 ·have I:(k:Int)<n:=by omega
  have s:k<fs.length:=by have:=H.o;omega
  have A:=ag (qi9 fs k s);have B:=ag (show(cz (fs.take k)).length+(fs[k]).2.length<=1000000 by
   have Y:=P.o;have R:=(qpc (List.take_sublist (k+1) fs)).length_le;rw[qi9 fs k s,Xa0]at R;omega)
  have S:wrap64 ((k:Int)+1)=(k:Int)+1:=wQ (by omega);obtain⟨b,T,a2,c2,rfl,U,D,y⟩:=O.o.atB r k s;clear U;obtain⟨f,J⟩:=ak (fs[k]);rw[<-J]at D y A B;clear J;obtain⟨x,l⟩:=f;simp only at D y A B
  obtain⟨p,E⟩:=ak l.length;rw[<-E]at D y;obtain⟨g,Z,w9,m,K,L⟩:=Hm d.o h.size (y.a r) E (by have:=B.o;omega);have M:=ag K;have V:=ag (h.trans L);obtain⟨av,cv,rfl⟩:=d.o.form;clear K L d B E y;rw[<-A.o]at m M;clear A;generalize (cz (fs.take k)).length=fl at *;generalize (cz (fs.take (k+1))).length=gl at *;go_wp2_with (at_builtin;refine kS rfl (.tmp 12) (.tmp 18) 96 rfl rfl rfl rfl m ?_)
  go_roundw
  case rel=>exact⟨k+1,by omega,rfl,M,V.o⟩
  simp only[intOf];omega
 have hd:decide ((k:Int)<n)=false:=aC (by omega);have e:k=fs.length:=by have:=H.o;omega
 rw[e,Xb5]at d;clear e;go_wp2;go_ret;exact⟨_,rfl,d.o.mono q.o.size,r⟩
theorem ql8(a:aA)(n c:Nat)(l:List Ex)(B:Int)(w:World)(j:iB w (.slice a n c) l)(t:n=l.length)(s:∀x∈l,jg x):
  Calls Tryz.prog 189 #[.slice a n c,.int .i64 B] w fun e w'=>e=.returned (.bool (decide (dK l B)))∧ah w w':=by
 have g:=qog a n c l w j t s;by_cases m:dY l=0
 case neg=>
  have p:=ag (show decide (dK l B)=false by simpa using fun h:dK l B=>absurd h.1 m);obtain⟨z,D⟩:=ak (dY l);rw[<-D]at g m;have v:(z==0)=false:=Xe2 m
  clear D j t s;go_enter Tryz.func189,Tryz.ntmps189;go_wp2_with fail
  refine g.mono ?_
  rintro e O⟨rfl,q⟩;go_wp2;go_ret;exact⟨by rw[p.o];rfl,q⟩
 have E:=ag (PT m).1;have P:=ag m;rw[m]at g;have Q:n<=4096:=t▸(wL E.o).1;have R:=ag j;have F:=ag t;clear j t s m;go_enter Tryz.func189,Tryz.ntmps189;go_wp2_with fail
 refine g.mono ?_
 rintro e O⟨rfl,q⟩;clear g;go_wp2;go_loopw [5] (fun i wr=>∃k:Nat,k<=n∧i=.int .i64 k∧af (∀x∈l.take k,34<=x.1∧x.1+x.2<=B)∧ah w wr) (fun i _=>n-(intOf i).toNat)
 case atStart=>exact⟨0,Xd5 _,rfl,ag (by simp),q⟩
 obtain⟨k,X,rfl,A,d⟩:=hrel;clear q;by_cases S:k<n
 ·have G:(k:Int)<n:=by omega
  have r:k<l.length:=by have:=F.o;omega
  have H:=ag (qF l k r);have T:wrap64 ((k:Int)+1)=(k:Int)+1:=wQ (by omega);obtain⟨b,U,rfl,I,J⟩:=(R.o.a d).at k r;obtain⟨K,L,M⟩:=(wL E.o).2 _ (Xa3 r);have C:=ag (Xa3 r);obtain⟨x,N⟩:=ak (l[k]);rw[<-N]at I J H K L M C;clear N;obtain⟨x,y⟩:=x;simp only at I J K L M
  have Y:IntKind.i64.wrap (x+y)=x+y:=by rw[IntKind.wrap_i64];omega
  by_cases m:x<34
  ·have p:=ag (show decide (dK l B)=false by
    simp only[Xd9];intro h;have:=(h.2 _ C.o).1
    simp only at this;omega)
   go_wp2;go_quiet (fail)
   go_wp2;go_ret;exact⟨by rw[p.o];rfl,below_drewN d _⟩
  have v:decide (x<34)=false:=by simpa using m
  by_cases V:B<x+y
  ·have p:=ag (show decide (dK l B)=false by
    simp only[Xd9];intro h;have:=(h.2 _ C.o).2
    simp only at this;omega)
   go_wp2;go_quiet (fail)
   go_wp2;go_ret;exact⟨by rw[p.o];rfl,below_drewN d _⟩
  have W:decide (B<x+y)=false:=by simpa using V
  have p:=ag (show ∀x∈l.take (k+1),34<=x.1∧x.1+x.2<=B by
   rw[H.o];intro f u;rcases Xa5.1 u with u|u
   ·exact A.o f u
   obtain rfl:f=(x,y):=by simpa using u
   simp only
   omega)
  go_wp2;go_quiet (fail)
  go_wp2;go_roundw
  case rel=>exact⟨k+1,by omega,rfl,p,below_drewN d _⟩
  simp only[intOf];omega
 have Z:decide ((k:Int)<n)=false:=aC (by omega);have e:k=l.length:=by have:=F.o;omega
 rw[e,Xb5]at A;clear e;have p:=ag (show decide (dK l B)=true from Xd8 (⟨P.o,A.o⟩:dK l B));go_wp2;go_ret;exact⟨by rw[p.o];rfl,d⟩
theorem AQ(n:Nat)(w:World)(a:n<18446744073709551616):Calls Tryz.prog 133 #[.int .u64 n] w fun e w'=>∃v,e=.returned v∧jF w' w.heap.size v (sm n)∧ah w w':=qjh n w a
theorem qagg(s:az)(w:World)(a:s.length<=1000000):Calls Tryz.prog 63 #[.string (bs s)] w fun e w'=>∃v,e=.returned v∧jF w' w.heap.size v (tx s)∧ah w w':=by
 have:=qsc (bs s) w (by rw[rf];omega)
 rwa [zk]at this
theorem qoh(s:az)(w:World):Calls Tryz.prog 188 #[.string (bs s)] w fun e w'=>e=.returned (.bool (gT s))∧w'=w:=by
 have d:=rf s;have c:=ag (show gT s=(decide ((1:Int)<=s.length) && decide ((s.length:Int)<=16))by
  unfold gT;congr 1<;>exact decide_eq_decide.2 (by omega))
 generalize s.length=n at *;by_cases f:1<=n
 ·have a:(1:Int)<=n:=by omega
  by_cases g:n<=16
  ·have b:(n:Int)<=16:=by omega
   go_enter Tryz.func188,Tryz.ntmps188;go_wp2;go_ret;exact⟨by rw[c.o];simp[a,b],rfl⟩
  have b:decide ((n:Int)<=16)=false:=aC (by omega);go_enter Tryz.func188,Tryz.ntmps188;go_wp2;go_ret;exact⟨by rw[c.o,b];simp,rfl⟩
 have a:decide ((1:Int)<=n)=false:=aC (by omega);go_enter Tryz.func188,Tryz.ntmps188;go_wp2;go_ret;exact⟨by rw[c.o,a];simp,rfl⟩
theorem xW(a:aA)(n c:Nat)(fs:List Fl)(w:World)(X:fQ w (.slice a n c) fs)(hn:n=fs.length)(G:okB fs):
  Calls Tryz.prog 191 #[.agg #[.slice a n c]] w fun e w'=>∃v,e=.returned v∧jF w' w.heap.size v (dJ fs)∧ah w w':=by
 have hm:n<=1000:=hn▸G.1;obtain⟨q,s⟩:=ak (w.alloc (.cells #[.slice a n c] 31));have H:ah w q:=by rw[s];exact ae
 have I:=ag (show aX q w.heap.size (.slice a n c)by rw[s];exact aX.new w _);have Y:=I.o.cell;rw[s]at Y;have J:=ag H;have HR:=ag (X.a H);have HN:=ag hn;have HK:=ag G;clear X hn G H;go_enter Tryz.func191,Tryz.ntmps191;go_wp2_with fail
 rw[<-s];clear s Y;refine(AQ n q (by omega)).mono ?_
 rintro e w1⟨v1,rfl,Z,K⟩;have ac:=(I.o.a K).cell;go_wp2;clear ac;go_loopw [4,3] (fun i v wr=>∃k:Nat,k<=n∧i=.int .i64 k∧af (jF wr q.heap.size v (sm n++(fs.take k).flatMap kJ))∧ah q wr) (fun i _ _=>n-(intOf i).toNat)
 case atStart=>exact⟨0,Xd5 _,rfl,ag (by simpa using Z),K⟩
 obtain⟨k,hk,rfl,d,g⟩:=hrel;have K9:=(I.o.a g).cell;clear Z K;by_cases aa:k<n
 ·have ab:(k:Int)<n:=by omega
  have N:k<fs.length:=by have:=HN.o;omega
  have HU:=ag (qq8 fs k N);have qQ:=ag (qww HK.o k);have aj:wrap64 ((k:Int)+1)=(k:Int)+1:=wQ (by omega);obtain⟨b,al,a2,c2,rfl,q0,q1,q2⟩:=HR.o.atB g k N;have HQ:=ag q2;clear q2;have O:=ag (HK.o.2 _ (Xa3 N));obtain⟨f,hf⟩:=ak (fs[k]);rw[<-hf]at q0 q1 HQ HU O;clear hf;obtain⟨L,hL⟩:=ak ((fs.take k).flatMap kJ);rw[<-hL]at d HU qQ;clear hL;obtain⟨m,D⟩:=ak f.2.length;rw[<-D]at q1 HQ;have am:m<=1000:=by rw[D];exact O.o.2.1
  have gP:=ag D;clear D;have qR:=ag (iP (n:=n) (by omega));have uX:=ag (iP (n:=m) (by omega));have zt:=ag (show(tx f.1).length<=1010 by
   have h1:=O.o.1;have:=iP (n:=f.1.length) (by omega)
   simp only[tx,Xa0];omega)
  -- the file's copy,its name
  obtain⟨w2,t⟩:=ak (wr.alloc (.cells #[.string (bs f.1),.slice a2 m c2] 98));obtain⟨F,hF⟩:=ak wr.heap.size;have u:aP w2 F (bs f.1) (.slice a2 m c2):=by rw[t,hF];exact aP.new wr _ _
  have P:ah wr w2:=by rw[t];exact ae
  have aS:ah q w2:=g.trans (P.mono g.size);have iC:=ag (d.o.a P);have s0:=u.cell0;rw[t]at s0;go_wp2_with fail
  rw[<-t];rw[<-hF];clear d s0;refine(qagg f.1 _ (by have:=O.o.1;omega)).mono ?_
  rintro e w3⟨v3,rfl,z,h⟩;have Q:ah q w3:=aS.trans (h.mono aS.size);obtain⟨v4,U,kW,fC,A,B⟩:=Ho (iC.o.a h) Q.size (BL z) (by
   have h1:=qR.o;have h2:=qQ.o;have h3:=zt.o;rw[Xa0];omega)
  have V:ah q U:=Q.trans A;have R:aP U F (bs f.1) (.slice a2 m c2):=B _ _ _ _ (by decide) (jm.of_below h _ _ _ _ (by decide) u);have r4:=R.cell1;have kV:=ag fC;have S:=ag V;have rM:=ag R;clear fC V A B z h Q u P t aS iC R g q0 q1 K9 hF;go_wp2_with (first|(at_builtin;refine kS rfl (.tmp 24) (.tmp 27) 23 rfl rfl rfl rfl kW ?_)|fail)
  refine(AQ m _ (by omega)).mono ?_
  rintro e w5⟨v5,rfl,ku,l⟩;have T:ah q w5:=S.o.trans (l.mono S.o.size);obtain⟨v6,w6,iZ,ou,C,Es⟩:=Ho (kV.o.a l) T.size (BL ku) (by
   have h1:=qR.o;have h2:=qQ.o;have h3:=zt.o;have h4:=uX.o;simp only[Xa0];omega)
  have uY:ah q w6:=T.trans C;have r:aP w6 F (bs f.1) (.slice a2 m c2):=Es _ _ _ _ (by decide) (jm.of_below l _ _ _ _ (by decide) rM.o);have r6:=r.cell1;have qP:=ag ou;have mJ:=ag uY;have La:=ag r;clear ou uY C Es ku l T r kV S rM r4 kW;go_wp2_with (at_builtin;refine kS rfl (.tmp 29) (.tmp 34) 23 rfl rfl rfl rfl iZ ?_)
  go_loopw [6,3] (fun i v wx=>∃j:Nat,j<=m∧i=.int .i64 j∧af (jF wx q.heap.size v (sm n++L++tx f.1++sm m++dZ (f.2.take j)))∧af (aP wx F (bs f.1) (.slice a2 m c2))∧ah q wx) (fun i _ _=>m-(intOf i).toNat)
  case atStart=>exact⟨0,Xd5 _,rfl,ag (by simpa [dZ]using qP.o),La,mJ.o⟩
  obtain⟨j,hj,rfl,d,Lb,g⟩:=hrel;have Br:=ag aa;clear qP mJ r6 iZ ab aa La;have s1:=Lb.o.cell1;by_cases an:j<m
  ·have xS:(j:Int)<m:=by omega
   have ao:wrap64 ((j:Int)+1)=(j:Int)+1:=wQ (by omega);have E:j<f.2.length:=by have:=gP.o;omega
   have HE:=ag (qq9 f.2 j E);obtain⟨bx,ox,rfl,p0,p1⟩:=(HQ.o.a g).at j E;have W:=ag (O.o.2.2 _ (Xa3 E));have fA:=ag (show(dZ (f.2.take j)).length<=20000 by
    have:=ET (f.2.take j) (fun x hx=>O.o.2.2 x (Xb9 hx))
    have h2:=O.o.2.1;rw[Xa4]at this;omega)
   have HP:=ag (fun (wz:World) (hz:ah q wz)=>(HQ.o.a hz).at j E);obtain⟨x,hx⟩:=ak (f.2[j]);rw[<-hx]at p0 p1 HE W HP;clear hx;obtain⟨x,y⟩:=x;obtain⟨x,rfl⟩:∃p:Nat,x=p:=⟨x.toNat,by have:=W.o.1;simp only at this;omega⟩;obtain⟨y,rfl⟩:∃p:Nat,y=p:=⟨y.toNat,by have:=W.o.2.2.1;simp only at this;omega⟩
   have ap:x<=4096:=by have:=W.o.2.1;simp only at this;omega
   have aq:y<=4096:=by have:=W.o.2.2.2;simp only at this;omega
   simp only at p0 p1
   have ad:=ag (show dZ (f.2.take (j+1))=dZ (f.2.take j)++(sm x++sm y)by have:=HE.o;simpa [lV]using this);clear HE W;obtain⟨M,hM⟩:=ak (sm n++L++tx f.1++sm m++dZ (f.2.take j));have Et:=ag (show M.length<=100000000 by
    have h1:=qR.o;have h2:=qQ.o;have h3:=zt.o;have h4:=uX.o;have h5:=fA.o;rw[hM];simp only[Xa0];omega)
   rw[<-hM]at d;have HM:=ag hM;clear hM;have TI:=ag (iP (n:=x) (by omega));have ai:=ag (iP (n:=y) (by omega));go_wp2_with fail
   refine(AQ x _ (by omega)).mono ?_
   rintro e w3⟨v3,rfl,z,h⟩;have Q:ah q w3:=g.trans (h.mono g.size);obtain⟨v4,U,kW,fC,A,B⟩:=Ho (d.o.a h) Q.size (BL z) (by
    have h1:=Et.o;have h2:=TI.o;omega)
   have V:ah q U:=Q.trans A;have R:aP U F (bs f.1) (.slice (some ⟨bx,ox,none⟩) m c2):=B _ _ _ _ (by decide) (jm.of_below h _ _ _ _ (by decide) Lb.o);have r4:=R.cell1;obtain⟨ar,av,e4,p2,p3⟩:=HP.o U V;cases e4;have kV:=ag fC;have S:=ag V;have rM:=ag R;clear fC V A B z h Q R g p0 p1 d Lb s1 p2;go_wp2_with (first|(at_builtin;refine kS rfl (.tmp 43) (.tmp 51) 23 rfl rfl rfl rfl kW ?_)|fail)
   refine(AQ y _ (by omega)).mono ?_
   rintro e w5⟨v5,rfl,ku,l⟩;have T:ah q w5:=S.o.trans (l.mono S.o.size);obtain⟨v6,w6,iZ,ou,C,Es⟩:=Ho (kV.o.a l) T.size (BL ku) (by
    have h1:=Et.o;have h2:=TI.o;have h3:=ai.o;simp only[Xa0];omega)
   have qP:=ag ou;have mJ:=ag (T.trans C);have La:=ag (show aP w6 F (bs f.1) (.slice (some ⟨bx,ox,none⟩) m c2)from Es _ _ _ _ (by decide) (jm.of_below l _ _ _ _ (by decide) rM.o));clear ou C Es ku l T kV S r4 kW rM p3 HP;go_wp2_with (at_builtin;refine kS rfl (.tmp 53) (.tmp 61) 23 rfl rfl rfl rfl iZ ?_)
   go_roundw
   case rel=>exact⟨j+1,by omega,rfl,ag (by
    rw[ad.o];have:=qP.o
    rw[HM.o]at this;simpa using this),La,mJ.o⟩
   simp only[intOf];omega
  have aw:decide ((j:Int)<m)=false:=aC (by omega);have e:j=f.2.length:=by have:=gP.o;omega
  rw[e,Xb5]at d;have HO:=ag (d.o);clear e d;go_wp2;go_roundw
  case rel=>exact⟨k+1,Br.o,rfl,ag (by
   rw[HU.o];have:=HO.o
   rw[gP.o]at this;simpa [kJ]using this),g⟩
  have:=Br.o;simp only[intOf];omega
 have hd:decide ((k:Int)<n)=false:=aC (by omega);have e:k=fs.length:=by have:=HN.o;omega
 rw[e,Xb5]at d;clear e;go_wp2;go_ret;refine⟨_,rfl, ?_,J.o.trans (g.mono J.o.size)⟩;have:=EY d.o J.o.size
 unfold dJ;rw[<-HN.o];exact this
theorem Vn(p q:Nat)(s:ByteArray)(x:Value):aN (Two p q s x):=fun _ _ h a=>h.a a
theorem qgb(s:az)(a:aA)(n c:Nat)(l:List Ex)(w:World)(p:iB w (.slice a n c) l)(D:n=l.length)(hl:l.length<=1000000):
  Calls Tryz.prog 114 #[.agg #[.string (bs s),.slice a n c]] w fun e w'=>∃K L,e=.returned (.agg #[.string (bs s),.slice K n L])∧bA w' w.heap.size (.slice K n L) l∧ah w w':=by
 obtain⟨b,x⟩:∃b,b=(w.alloc (.cells #[.string (bs s),.slice a n c] 98)).alloc (.cells #[.string {data:=#[]},.slice none 0 0] 98):=⟨_,rfl⟩
 have d:ah w b:=by rw[x];exact(ae).alloc (by simp) _
 have E:Two w.heap.size (w.heap.size+1) (bs s) (.slice a n c) b:=by
  rw[x];refine⟨by omega, ?_,.string {data:=#[]},.slice none 0 0, ?_⟩
  ·have:=heap_alloc_new w (.cells #[.string (bs s),.slice a n c] 98)
   rw[<-this];exact((Below.refl (w.alloc (.cells #[.string (bs s),.slice a n c] 98)).heap.size _).alloc aL _).block _ (by simp)
  have:=heap_alloc_new (w.alloc (.cells #[.string (bs s),.slice a n c] 98)) (.cells #[.string {data:=#[]},.slice none 0 0] 98)
  simpa using this
 obtain⟨h,i,f,g,A,M⟩:=Hm (w:=b.drew) (base:=b.heap.size) (bA.nil _ _) aL ((p.a d).a ((Below.refl b.heap.size b).drew)) D (by simpa using hl);rw[List.nil_append,<-D]at g A;have F:ah b f:=((Below.refl b.heap.size b).drew).trans M;have j:=E.a F;have U:=Two.e0 f j;have N:=Two.e1 f j;have V:=Two.fz f j 0;have W:=Two.fz f j 1;obtain⟨r,t⟩:=j.put (.string (bs s)) (.slice h n i);obtain⟨y,z,O⟩:=j.2.2;have G:=zu (w:=f) (q:=w.heap.size+1) (.string (bs s)) (.slice h n i);have m:ah w f:=d.trans (F.mono d.size);have P:=ag (show bA ((f.setCell ⟨w.heap.size+1,0,none⟩ (.string (bs s))).setCell ⟨w.heap.size+1,1,none⟩ (.slice h n i)) w.heap.size (.slice h n i) l from bA.mono (World.ownsRow.kept A G (.inr (A.apartF O))) d.size);have Q:=ag (m.grown G m.size (by intro k X;cases X;omega));have u:=ag E;have H:=ag j;have R:=ag r;have I:=ag t;clear p D hl M F j r t O G m A E d;go_enter Tryz.func114,Tryz.ntmps114;go_wp2;rw[<-x];clear x;refine iH (Vn w.heap.size (w.heap.size+1) (bs s) (.slice a n c)) (by kernel_rfl) u.o ?_
 intro S;refine rP [0,1,2,3] 3 ?KT ?xX S ?KU
 case xX=>
  iterate 4 (apply Yl.cons rfl (by kernel_rfl);focus (intro J B;have N:=Two.c0 J B;have Y:=Two.c1 J B;clear B;go_simp<;>rfl);try simp only[aB])
  exact Yl.nil
 refine rR 4 (.slice h n i) f rfl (Fx (v:=.slice none 0 0) (y:=.slice a n c) rfl rfl rfl g) H.o ?_
 try simp only[aB]
 refine rP [5] 1 ?qa2 ?KW H.o ?qn2
 case KW=>
  iterate 1 (apply Yl.cons rfl (by kernel_rfl);focus (intro J B;go_simp<;>rfl);try simp only[aB])
  exact Yl.nil
 refine rN 6 ((f.setCell ⟨w.heap.size+1,0,none⟩ (.string (bs s))).setCell ⟨w.heap.size+1,1,none⟩ (.slice h n i)) rfl (by go_simp) R.o ?_
 try simp only[aB]
 refine rD ?_
 obtain⟨C,T⟩:=ak ((f.setCell ⟨w.heap.size+1,0,none⟩ (.string (bs s))).setCell ⟨w.heap.size+1,1,none⟩ (.slice h n i));rw[<-T]at P Q I⊢;have Z:C.cell? ⟨w.heap.size+1,0,none⟩=some (.string (bs s)):=by rw[cell_of_row C _ 0 _ _ (0,0) I.o];rfl
 have r1:C.cell? ⟨w.heap.size+1,1,none⟩=some (.slice h n i):=by rw[cell_of_row C _ 1 _ _ (0,0) I.o];rfl
 clear T U N V W g S R H u;go_wp2;try simp only[Exit.inBlock,Exit.then]
 refine bodyPost_ret (v:=.agg #[.string (bs s),.slice h n i]) ?_ rfl ⟨_,_,rfl,P.o,Q.o⟩
 simp[results,Tryz.results114,go_sem, *]
def H7 (w:World) (s:az) (p:Nat) (l:List Ex) (v:Value) (wx:World):Prop:=∃a7 c7,v=.agg #[.string (bs s),.slice a7 p c7]∧bA wx w.heap.size (.slice a7 p c7) l∧ah w wx
theorem Lc(s:az)(a:aA)(n c:Nat)(l:List Ex)(w:World)(b:iB w (.slice a n c) l)(d:n=l.length)(hl:l.length<=1000000):
  Calls Tryz.prog 114 #[.agg #[.string (bs s),.slice a n c]] w.drew fun e w'=>∃v,e=.returned v∧H7 w s n l v w':=
 (qgb s a n c l w.drew (b.a ((Below.refl w.heap.size w).drew)) d hl).mono fun e w' ⟨a7,c7,h1,h2,h3⟩=>⟨_,h1,a7,c7,rfl,h2,((Below.refl w.heap.size w).drew).trans h3⟩
def qB (B q r x:Nat) (dv v:Value) (w:World):Prop:=(q<B∧r<B∧x<B∧q≠x∧r≠x)∧aX w q dv∧bZ w r∧aX w x v
theorem qB.low{w':World}(h:qB B q r x dv v w)(hb:Below B w w'):qB B q r x dv v w':=by
 obtain⟨⟨a,b,c,d,e⟩,f,⟨y,g⟩,i⟩:=h;exact⟨⟨a,b,c,d,e⟩,(hb.block q a).trans f,⟨y,(hb.block r b).trans g⟩,(hb.block x c).trans i⟩
theorem qB.keeps(B q r x:Nat)(dv v:Value):aN (qB B q r x dv v):=fun w w' h a=>by
 obtain⟨b,c,d,e⟩:=h;exact⟨b,c.a a,d.a a,e.a a⟩
theorem qB.put(h:qB B q r x dv v w)(u:Value):qB B q r x dv u (w.setCell ⟨x,0,none⟩ u):=by
 obtain⟨⟨c,d,e,a,b⟩,f,⟨y,g⟩,i⟩:=h;refine⟨⟨c,d,e,a,b⟩,(heap_setCell_other w ⟨x,0,none⟩ q u a).trans f,⟨y,(heap_setCell_other w ⟨x,0,none⟩ r u b).trans g⟩, ?_⟩;have:=heap_setCell_same w x 0 #[v] 31 u i
 unfold aX;rw[this];rfl
theorem qB.fz(h:qB B q r x dv v w):w.frozen? ⟨x,0,none⟩=false:=frozen_of_row w x 0 _ _ h.2.2.2
theorem Ga{u:Value}{w0:World}{fs:List Fl}(e:w0.heap.size<=B)(a:ah w0 w)(f:w0.heap.size<=x)(h:qB B q r x dv v w)(c:bi w B u fs):
  qB B q r x dv u (w.setCell ⟨x,0,none⟩ u)∧bi (w.setCell ⟨x,0,none⟩ u) B u fs∧ah w0 (w.setCell ⟨x,0,none⟩ u):=by
 have b:=nO w ⟨x,0,none⟩ u;exact⟨h.put u,c.keptS b h.2.2.2 (by decide) (by decide),a.grown b a.size (by intro k d;cases d;omega)⟩
theorem qoi(a:aA)(n c:Nat)(fs:List Fl)(w:World)(I:fQ w (.slice a n c) fs)(hn:n=fs.length)(am:n<=1000)(J:∀f∈fs,f.2.length<=1000000):
  Calls Tryz.prog 54 #[.agg #[.slice a n c]] w fun e w'=>∃v,e=.returned (.agg #[v])∧bi w' w.heap.size v (fs)∧ah w w':=by
 obtain⟨W0,m⟩:=ak (((w.alloc (.cells #[.slice a n c] 31)).alloc (.cells #[.slice none 0 0] 31)).alloc (.cells #[.slice none 0 0] 31));have K:ah w W0:=by rw[m];exact((ae).alloc (by simp) _).alloc (by simp;omega) _
 have HR:=ag I;have HN:=ag hn;have oz:=ag J;obtain⟨Q,hQ⟩:=ak w.heap.size;obtain⟨L,C⟩:=ak (w.heap.size+1);obtain⟨X,Y⟩:=ak (w.heap.size+1+1);obtain⟨B,hB⟩:=ak (w.heap.size+3);have aa:=ag (show qB B Q L X (.slice a n c) (.slice none 0 0) W0 by
  rw[m,hB,hQ,C,Y];refine⟨⟨by omega,by omega,by omega,by omega,by omega⟩, ?_, ?_, ?_⟩
  ·exact((aX.new w (.slice a n c)).a (ae)).a (ae)
  ·have:=(bZ.new (w.alloc (.cells #[.slice a n c] 31)) (.slice none 0 0)).a (aF.alloc aL (.cells #[.slice none 0 0] 31))
   simpa using this
  have:=aX.new ((w.alloc (.cells #[.slice a n c] 31)).alloc (.cells #[.slice none 0 0] 31)) (.slice none 0 0)
  simpa using this)
 have Z:=ag (show w.heap.size<=B by omega);have ab:=ag (show w.heap.size<=X by omega);have H8:=ag (show w.heap.size<=L by omega);have kv:=ag (show B<=W0.heap.size by rw[m,hB];simp);have ac:=ag K;clear I hn J K hB;go_enter Tryz.func54,Tryz.ntmps54;go_wp2;rw[<-m];clear m
 first|rw[<-Y]|rw[show w.heap.size+2=X from Y.symm]
 rw[<-C];rw[<-hQ];clear hQ Y C;go_loopw [4] (fun i wr=>∃k:Nat,k<=n∧i=.int .i64 k∧∃v,af (qB B Q L X (.slice a n c) v wr)∧af (bi wr B v (fs.take k))∧ah w wr∧B<=wr.heap.size) (fun i _=>n-(intOf i).toNat)
 case atStart=>exact⟨0,Xd5 _,rfl,.slice none 0 0,aa,ag (by simpa [bM]using bi.nil _ _),ac.o,kv.o⟩
 obtain⟨k,hk,rfl,v,u,g,d,rG⟩:=hrel;have K9:=u.o.2.1.cell;by_cases an:k<n
 ·have al:(k:Int)<n:=by omega
  have D:k<fs.length:=by have:=HN.o;omega
  have HT:=ag (qF fs k D);have ao:wrap64 ((k:Int)+1)=(k:Int)+1:=wQ (by omega);obtain⟨b,q,a2,c2,rfl,k0,k1,q2⟩:=HR.o.at k D;have r:=ag (show ∀wz:World,ah w wz->wz.cell? ⟨b,q+k*2,none⟩=some (.string (bs (fs[k]).1))∧wz.cell? ⟨b,q+k*2+1,none⟩=some (.slice a2 (fs[k]).2.length c2)from fun wz M=>⟨(M.cell (Xa6 w _ k0)).trans k0,(M.cell (Xa6 w _ k1)).trans k1⟩);obtain⟨q0,N⟩:=r.o wr d;clear k0 k1;have tC:=ag (oz.o _ (Xa3 D));have oQ:=ag q2;clear q2;obtain⟨f,hf⟩:=ak (fs[k]);rw[<-hf]at q0 N oQ HT tC r;clear hf;obtain⟨s,l⟩:=f;simp only at q0 N oQ tC r
  obtain⟨p,hp⟩:=ak l.length;rw[<-hp]at N oQ r;have HP:=ag hp;clear hp;have xV:=ag (show(fs.take k).length<=1000 by rw[Xa4];omega);obtain⟨j,h⟩:=ak ((fs.take k).length);obtain⟨x,z,pY⟩:∃x z,v=.slice x j z:=by rw[h];exact g.o.form
  subst pY;have kX:=ag h;clear h;have kw:=ag (Lc s a2 p c2 l wr (oQ.o.a d) HP.o tC.o);obtain⟨S,O⟩:∃S:World->Prop,S=fun P=>qB B Q L X (.slice (some ⟨b,q,none⟩) n c) (.slice x j z) P∧P.cell? ⟨b,q+k*2,none⟩=some (.string (bs s))∧P.cell? ⟨b,q+k*2+1,none⟩=some (.slice a2 p c2):=⟨_,rfl⟩
  have R:aN S:=by rw[O];exact(qB.keeps _ _ _ _ _ _).and ((aV _ _).and (aV _ _))
  have A:S wr:=by rw[O];exact⟨u.o,q0,N⟩
  have ky:=ag (show ∀wz,Below B wr wz->S wz from fun wz M=>by
   rw[O];obtain⟨z0,z1⟩:=r.o wz (d.trans (M.mono Z.o));exact⟨u.o.low M,z0,z1⟩)
  rw[O]at R A ky;clear O q0 N;have T:=u.o.2.1.cell;go_wp2;refine sK R 11 (by kernel_rfl) A ?_
  intro E;refine lP [0,1,2,3,4,5,6] 5 ?jS ?dP E ?jT
  case dP=>
   iterate 7 (apply Yl.cons rfl (by kernel_rfl);focus (rintro P⟨F,U⟩;(have x1:=F.2.1.cell);(have x3:=F.2.2.2.cell);(have V:=U);clear F U;try (obtain⟨V,x5⟩:=V);go_simp<;>rfl);try simp only[aB])
   exact Yl.nil
  refine lC 7 (H7 wr s p l) rfl kw.o ?_
  rintro v7 w7⟨a7,c7,rfl,jf,W⟩;have dQ:=R _ _ A W;refine⟨dQ, ?_⟩;obtain⟨g9,c9,G,t,bK,bI⟩:=Fz (g.o.a W) (aG rG W.size) (by have:=xV.o;omega) s (.slice a7 p c7) l (jf.mono rG);rw[<-kX.o]at t bK;have eH:Below B wr G:=(W.mono rG).trans bI;have H:=ky.o G eH;have mY:=R _ (w7.alloc (.cells #[.string (bs s),.slice a7 p c7] 98)) dQ (ae);have x9:=H.1.2.2.2.cell;have z9:=H.1.fz;clear E;have E:=dQ;try simp only[aB]
  refine lR 8 (.slice (some ⟨w7.heap.size,0,none⟩) 1 1) (w7.alloc (.cells #[.string (bs s),.slice a7 p c7] 98)) rfl (by go_simp) (fun _=>mY) ?_
  try simp only[aB]
  refine lR 9 (.slice (some ⟨g9,0,none⟩) (j+1) c9) G rfl (Fx (v:=.slice x j z) (y:=.slice (some ⟨w7.heap.size,0,none⟩) 1 1) rfl rfl rfl t) (fun _=>H) ?_
  clear E;have E:=H;try simp only[aB]
  refine lT 10 ?uR rfl ?kR E ?uS
  case kR=>(rintro P⟨F,U⟩;(have x1:=F.2.1.cell);(have x3:=F.2.2.2.cell);(have V:=U);clear F U;try (obtain⟨V,x5⟩:=V);go_simp<;>rfl)
  try simp only[aB]
  refine lL 11 (G.setCell ⟨X,0,none⟩ (.slice (some ⟨g9,0,none⟩) (j+1) c9)) rfl (by go_simp) ?_
  try simp only[aB]
  refine lD ?_
  obtain⟨t1,t2,t3⟩:=Ga Z.o (d.trans (eH.mono Z.o)) ab.o H.1 bK;have ad:=ag t1;have ai:=ag (show bi _ B _ (fs.take (k+1))by rw[HT.o];exact t2);have aj:=ag t3;have QA:=ag (show B<=(G.setCell ⟨X,0,none⟩ (.slice (some ⟨g9,0,none⟩) (j+1) c9)).heap.size from aG (aG rG eH.size) (nO _ _ _).size);clear t1 t2 t3 bK bI eH t x9 z9 E dQ H mY jf W R A ky;generalize G.setCell ⟨X,0,none⟩ (.slice (some ⟨g9,0,none⟩) (j+1) c9)=wz at *;go_wp2;go_roundw
  case rel=>exact⟨k+1,by omega,rfl,_,ad,ai,aj.o,QA.o⟩
  simp only[intOf];omega
 have hd:decide ((k:Int)<n)=false:=aC (by omega);have e:k=fs.length:=by have:=HN.o;omega
 rw[e,Xb5]at g;clear e;have T:=u.o.2.1.cell;have Ld:=u.o.2.2.2.cell;have hc:=u.o.2.2.1.cell;have hf:=u.o.2.2.1.fz;obtain⟨j,h⟩:=ak ((fs).length);obtain⟨x,z,pY⟩:∃x z,v=.slice x j z:=by rw[h];exact g.o.form
 subst pY;clear h;obtain⟨z0,hg, -⟩:=u.o.2.2.1.put (.slice x j z);obtain⟨y,hy⟩:=u.o.2.2.1;have HO:=ag (g.o.keptS hg hy (by decide) (by decide));have fA:=ag (d.grown hg d.size (by intro k hk;cases hk;have:=H8.o;omega));clear hy hg;go_wp2;obtain⟨G,aM⟩:=ak (wr.setCell ⟨L,0,none⟩ (.slice x j z));rw[<-aM]at z0 HO fA⊢;try simp only[Exit.inBlock,Exit.then]
 refine bodyPost_ret (v:=.agg #[.slice x j z]) ?_ rfl ⟨_,rfl,HO.o.mono Z.o,fA.o⟩
 clear aM hc T Ld hf;simp[results,Tryz.results54,go_sem, *]
theorem TH(fs:List Fl)(f:Fl)(t:az):bM (fs++[f]) t=if f.1=t then bM fs t else bM fs t++[f]:=by
 unfold bM;rw[List.filter_append];by_cases h:f.1=t
 ·rw[if_pos h,List.filter_cons_of_neg (by simp[h])];simp
 rw[if_neg h,List.filter_cons_of_pos (by simp[h])];simp
theorem qj4(a:aA)(n c:Nat)(fs:List Fl)(t:az)(w:World)(K:fQ w (.slice a n c) fs)(hn:n=fs.length)(an:n<=1000)(L:∀f∈fs,f.2.length<=1000000):
  Calls Tryz.prog 208 #[.agg #[.slice a n c],.string (bs t)] w fun e w'=>∃v,e=.returned (.agg #[v])∧bi w' w.heap.size v (bM fs t)∧ah w w':=by
 obtain⟨W0,m⟩:=ak (((w.alloc (.cells #[.slice a n c] 31)).alloc (.cells #[.slice none 0 0] 31)).alloc (.cells #[.slice none 0 0] 31));have M:ah w W0:=by rw[m];exact((ae).alloc (by simp) _).alloc (by simp;omega) _
 have HR:=ag K;have HN:=ag hn;have oz:=ag L;obtain⟨Q,hQ⟩:=ak w.heap.size;obtain⟨N,D⟩:=ak (w.heap.size+1);obtain⟨X,hX⟩:=ak (w.heap.size+1+1);obtain⟨B,hB⟩:=ak (w.heap.size+3);have aa:=ag (show qB B Q N X (.slice a n c) (.slice none 0 0) W0 by
  rw[m,hB,hQ,D,hX];refine⟨⟨by omega,by omega,by omega,by omega,by omega⟩, ?_, ?_, ?_⟩
  ·exact((aX.new w (.slice a n c)).a (ae)).a (ae)
  ·have:=(bZ.new (w.alloc (.cells #[.slice a n c] 31)) (.slice none 0 0)).a (aF.alloc aL (.cells #[.slice none 0 0] 31))
   simpa using this
  have:=aX.new ((w.alloc (.cells #[.slice a n c] 31)).alloc (.cells #[.slice none 0 0] 31)) (.slice none 0 0)
  simpa using this)
 have fu:=ag (show w.heap.size<=B by omega);have ab:=ag (show w.heap.size<=X by omega);have H8:=ag (show w.heap.size<=N by omega);have kv:=ag (show B<=W0.heap.size by rw[m,hB];simp);have ac:=ag M;clear K hn L M hB;go_enter Tryz.func208,Tryz.ntmps208;go_wp2;rw[<-m];clear m
 first|rw[<-hX]|rw[show w.heap.size+2=X from hX.symm]
 rw[<-D];rw[<-hQ];clear hQ hX D;go_loopw [6] (fun i wr=>∃k:Nat,k<=n∧i=.int .i64 k∧∃v,af (qB B Q N X (.slice a n c) v wr)∧af (bi wr B v (bM (fs.take k) t))∧ah w wr∧B<=wr.heap.size) (fun i _=>n-(intOf i).toNat)
 case atStart=>exact⟨0,Xd5 _,rfl,.slice none 0 0,aa,ag (by simpa [bM]using bi.nil _ _),ac.o,kv.o⟩
 obtain⟨k,hk,rfl,v,q,g,d,O⟩:=hrel;have K9:=q.o.2.1.cell;by_cases ao:k<n
 ·have am:(k:Int)<n:=by omega
  have E:k<fs.length:=by have:=HN.o;omega
  have HT:=ag (qF fs k E);have ap:wrap64 ((k:Int)+1)=(k:Int)+1:=wQ (by omega);obtain⟨b,r,a2,c2,rfl,k0,k1,q2⟩:=HR.o.at k E;have u:=ag (show ∀wz:World,ah w wz->wz.cell? ⟨b,r+k*2,none⟩=some (.string (bs (fs[k]).1))∧wz.cell? ⟨b,r+k*2+1,none⟩=some (.slice a2 (fs[k]).2.length c2)from fun wz P=>⟨(P.cell (Xa6 w _ k0)).trans k0,(P.cell (Xa6 w _ k1)).trans k1⟩);obtain⟨q0,R⟩:=u.o wr d;clear k0 k1;have tC:=ag (oz.o _ (Xa3 E));have oQ:=ag q2;clear q2;obtain⟨f,hf⟩:=ak (fs[k]);rw[<-hf]at q0 R oQ HT tC u;clear hf;obtain⟨s,l⟩:=f;simp only at q0 R oQ tC u
  obtain⟨p,hp⟩:=ak l.length;rw[<-hp]at R oQ u;have HP:=ag hp;clear hp;have T:=ag (TH (fs.take k) (s,l) t);have xV:=ag (show(bM (fs.take k) t).length<=1000 by have:=(Ej (fs.take k) t).length_le;rw[Xa4]at this;omega);by_cases I:s=t
  ·have ad:((bs s).toList==(bs t).toList)=true:=by rw[zq,I];simp
   have HE:=ag (show bM (fs.take (k+1)) t=bM (fs.take k) t by rw[HT.o,T.o,if_pos I]);clear I;go_wp2;go_roundw
   case rel=>exact⟨k+1,by omega,rfl,v,q,ag (by rw[HE.o];exact g.o),d,O⟩
   simp only[intOf];omega
  have ad:((bs s).toList==(bs t).toList)=false:=by rw[zq];simpa using I
  have HE:=ag (show bM (fs.take (k+1)) t=bM (fs.take k) t++[(s,l)]by rw[HT.o,T.o,if_neg I]);clear I;obtain⟨j,h⟩:=ak ((bM (fs.take k) t).length);obtain⟨z,A,pY⟩:∃z A,v=.slice z j A:=by rw[h];exact g.o.form
  subst pY;have kX:=ag h;clear h;have kw:=ag (Lc s a2 p c2 l wr (oQ.o.a d) HP.o tC.o);obtain⟨S,U⟩:∃S:World->Prop,S=fun V=>qB B Q N X (.slice (some ⟨b,r,none⟩) n c) (.slice z j A) V∧V.cell? ⟨b,r+k*2,none⟩=some (.string (bs s))∧V.cell? ⟨b,r+k*2+1,none⟩=some (.slice a2 p c2):=⟨_,rfl⟩
  have W:aN S:=by rw[U];exact(qB.keeps _ _ _ _ _ _).and ((aV _ _).and (aV _ _))
  have C:S wr:=by rw[U];exact⟨q.o,q0,R⟩
  have ky:=ag (show ∀wz,Below B wr wz->S wz from fun wz P=>by
   rw[U];obtain⟨z0,z1⟩:=u.o wz (d.trans (P.mono fu.o));exact⟨q.o.low P,z0,z1⟩)
  rw[U]at W C ky;clear U;have Y:=q.o.2.1.cell;go_wp2;clear q0 R;refine sK W 11 (by kernel_rfl) C ?_
  intro F;refine lP [0,1,2,3,4,5,6] 5 ?oI ?iA F ?oJ
  case iA=>
   iterate 7 (apply Yl.cons rfl (by kernel_rfl);focus (rintro V⟨G,Z⟩;(have x1:=G.2.1.cell);(have x3:=G.2.2.2.cell);(have x4:=Z);clear G Z;try (obtain⟨x4,x5⟩:=x4);go_simp<;>rfl);try simp only[aB])
   exact Yl.nil
  refine lC 7 (H7 wr s p l) rfl kw.o ?_
  rintro v7 w7⟨a7,c7,rfl,jf,bE⟩;have dQ:=W _ _ C bE;refine⟨dQ, ?_⟩;obtain⟨g9,c9,H,x,bK,bI⟩:=Fz (g.o.a bE) (aG O bE.size) (by have:=xV.o;omega) s (.slice a7 p c7) l (jf.mono O);rw[<-kX.o]at x bK;have eH:Below B wr H:=(bE.mono O).trans bI;have J:=ky.o H eH;have mY:=W _ (w7.alloc (.cells #[.string (bs s),.slice a7 p c7] 98)) dQ (ae);have x9:=J.1.2.2.2.cell;have z9:=J.1.fz;clear F;have F:=dQ;try simp only[aB]
  refine lR 8 (.slice (some ⟨w7.heap.size,0,none⟩) 1 1) (w7.alloc (.cells #[.string (bs s),.slice a7 p c7] 98)) rfl (by go_simp) (fun _=>mY) ?_
  try simp only[aB]
  refine lR 9 (.slice (some ⟨g9,0,none⟩) (j+1) c9) H rfl (Fx (v:=.slice z j A) (y:=.slice (some ⟨w7.heap.size,0,none⟩) 1 1) rfl rfl rfl x) (fun _=>J) ?_
  clear F;have F:=J;try simp only[aB]
  refine lT 10 ?uR rfl ?kR F ?uS
  case kR=>(rintro V⟨G,Z⟩;(have x1:=G.2.1.cell);(have x3:=G.2.2.2.cell);(have x4:=Z);clear G Z;try (obtain⟨x4,x5⟩:=x4);go_simp<;>rfl)
  try simp only[aB]
  refine lL 11 (H.setCell ⟨X,0,none⟩ (.slice (some ⟨g9,0,none⟩) (j+1) c9)) rfl (by go_simp) ?_
  try simp only[aB]
  refine lD ?_
  obtain⟨t1,t2,t3⟩:=Ga fu.o (d.trans (eH.mono fu.o)) ab.o J.1 bK;have ai:=ag t1;have aj:=ag (show bi _ B _ (bM (fs.take (k+1)) t)by rw[HE.o];exact t2);have al:=ag t3;have QA:=ag (show B<=(H.setCell ⟨X,0,none⟩ (.slice (some ⟨g9,0,none⟩) (j+1) c9)).heap.size from aG (aG O eH.size) (nO _ _ _).size);clear t1 t2 t3 bK bI eH x x9 z9 F dQ J mY jf bE W C ky;generalize H.setCell ⟨X,0,none⟩ (.slice (some ⟨g9,0,none⟩) (j+1) c9)=wz at *;go_wp2;go_roundw
  case rel=>exact⟨k+1,by omega,rfl,_,ai,aj,al.o,QA.o⟩
  simp only[intOf];omega
 have hd:decide ((k:Int)<n)=false:=aC (by omega);have e:k=fs.length:=by have:=HN.o;omega
 rw[e,Xb5]at g;clear e;have Y:=q.o.2.1.cell;have Ld:=q.o.2.2.2.cell;have hc:=q.o.2.2.1.cell;have hf:=q.o.2.2.1.fz;obtain⟨j,h⟩:=ak ((bM fs t).length);obtain⟨z,A,pY⟩:∃z A,v=.slice z j A:=by rw[h];exact g.o.form
 subst pY;clear h;obtain⟨z0,hg, -⟩:=q.o.2.2.1.put (.slice z j A);obtain⟨y,hy⟩:=q.o.2.2.1;have HO:=ag (g.o.keptS hg hy (by decide) (by decide));have fA:=ag (d.grown hg d.size (by intro k hk;cases hk;have:=H8.o;omega));clear hy hg;go_wp2;obtain⟨H,aM⟩:=ak (wr.setCell ⟨N,0,none⟩ (.slice z j A));rw[<-aM]at z0 HO fA⊢;try simp only[Exit.inBlock,Exit.then]
 refine bodyPost_ret (v:=.agg #[.slice z j A]) ?_ rfl ⟨_,rfl,HO.o.mono fu.o,fA.o⟩
 clear aM hc Y Ld hf;simp[results,Tryz.results208,go_sem, *]
end Go.Proofs.YtmeaiocohalphaaGreatDoor
