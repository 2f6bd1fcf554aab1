/-
  Of the document's side of layer 5: TwinFile, Twin, without, with.
-/
import Derived.Test.YthpammbgcidloaaGreatRmRef
set_option maxHeartbeats 4000000
set_option maxRecDepth 100000
namespace Go.Proofs.YthpammbgcidloaaGreat
open Go.RowKit
set_option linter.all false
theorem Xo (s:ak) (w:World):Calls Tryz.prog 111 #[.string (bs s)] w fun e w'=>e=.returned (.bool (jw s))∧ah w w':=by
 have d:=Lx s;have c:=ag (show jw s=(decide ((1:Int)<=s.length) && decide ((s.length:Int)<=16)) by
  unfold jw;congr 1<;>exact decide_eq_decide.2 (by omega))
 generalize s.length=n at *;by_cases f:1<=n
 ·have a:(1:Int)<=n:=by omega
  by_cases g:n<=16
  ·have b:(n:Int)<=16:=by omega
   go_enter Tryz.func111,Tryz.ntmps111;go_wp2;go_ret;exact ⟨by rw [c.o];simp [a,b],aB⟩
  ·have b:decide ((n:Int)<=16)=false:=aA (by omega)
   go_enter Tryz.func111,Tryz.ntmps111;go_wp2;go_ret;exact ⟨by rw [c.o,b];simp,aB⟩
 ·have a:decide ((1:Int)<=n)=false:=aA (by omega)
  go_enter Tryz.func111,Tryz.ntmps111;go_wp2;go_ret;exact ⟨by rw [c.o,a];simp,aB⟩
theorem qke (B:Int) (w:World):Calls Tryz.prog 110 #[.int .i64 B] w fun e w'=>e=.returned (.bool (decide (fq B)))∧ah w w':=by
 have a:=ag (show decide (fq B)=(decide (34<B) && decide (B<=4096)) by unfold fq;exact Bool.decide_and ..);by_cases d:34<B
 ·by_cases f:B<=4096
  ·go_enter Tryz.func110,Tryz.ntmps110
   go_wp2;go_ret;exact ⟨by rw [a.o];simp [d,f],aB⟩
  ·have b:decide (B<=4096)=false:=by simpa using f
   go_enter Tryz.func110,Tryz.ntmps110;go_wp2;go_ret;exact ⟨by rw [a.o,b];simp,aB⟩
 ·have c:decide (34<B)=false:=by simpa using d
  go_enter Tryz.func110,Tryz.ntmps110;go_wp2;go_ret;exact ⟨by rw [a.o,c];simp,aB⟩
theorem qsf (a:au) (n c:Nat) (fs:List Fl) (s:ak) (w:World) (u:RdF w (.slice a n c) fs) (C:n=fs.length) (J:n<=1000):
  Calls Tryz.prog 119 #[.agg #[.slice a n c],.string (bs s)] w fun e w'=>((e=.returned (.int .i64 (-1))∧jZ fs s=false)∨∃t,∃h:t<fs.length,e=.returned (.int .i64 t)∧(fs[t]).1=s∧jZ fs s=true)∧ah w w':=by
 have K:=ag u;have D:=ag C;obtain ⟨z,g⟩:=ai (w.alloc (.cells #[.slice a n c] 30));have v:ah w z:=by rw [g];exact ae
 have A:=ag (show bG z w.heap.size (.slice a n c) by rw [g];exact bG.new w _);have y:=ag v;clear u C v;go_enter Tryz.func119,Tryz.ntmps119;go_wp2;rw [<-g];clear g;go_loopw [5] (fun i wr=>∃k:Nat,k<=n∧i=.int .i64 k∧af (∀f∈fs.take k,f.1≠s)∧ah z wr) (fun i _=>n - (intOf i).toNat)
 case atStart=>exact ⟨0,Nat.zero_le _,rfl,ag (by simp),aB⟩
 case round=>
  obtain ⟨k,S,rfl,p,d⟩:=hrel;have T:=(A.o.a d).cell;have q:ah w wr:=y.o.trans (d.mono y.o.size);by_cases L:k<n
  ·have E:(k:Int)<n:=by omega
   have j:k<fs.length:=by have:=D.o;omega
   have F:=ag (uE fs k j);have M:wrap64 ((k:Int)+1)=(k:Int)+1:=vo (by omega);obtain ⟨b,N,a2,c2,rfl,G,O,P⟩:=K.o.atB q k j;clear O P;obtain ⟨f,m⟩:=ai (fs[k]);rw [<-m] at G F;have H:=ag m;clear m;obtain ⟨x,l⟩:=f;simp only at G
   by_cases r:x=s
   ·have B:((bs x).toList==(bs s).toList)=true:=by rw [zQ,r];simp
    have I:=ag r;clear r;go_wp2;go_ret;refine ⟨.inr ⟨k,j,rfl,by rw [<-H.o];exact I.o, ?_⟩,q⟩;exact (Cv fs s).2 ⟨l,by rw [<-I.o,H.o];exact List.getElem_mem j⟩
   have B:((bs x).toList==(bs s).toList)=false:=by rw [zQ];simpa using r
   have Q:=ag (show ∀f∈fs.take (k+1),f.1≠s by
    rw [F.o];intro f m;rcases List.mem_append.1 m with m | m
    ·exact p.o f m
    ·obtain rfl:f=(x,l):=by simpa using m
     exact r)
   clear r;go_wp2;go_roundw
   case rel=>exact ⟨k+1,by omega,rfl,Q,d⟩
   case measure=>simp only [intOf];omega
  ·have U:decide ((k:Int)<n)=false:=aA (by omega)
   have e:k=fs.length:=by have:=D.o;omega
   rw [e,List.take_length] at p;clear e;go_wp2;go_ret;refine ⟨.inl ⟨rfl, ?_⟩,q⟩;cases hq:jZ fs s with
   | false=>rfl
   | true=>
    obtain ⟨l,R⟩:=(Cv fs s).1 hq;exact absurd rfl (p.o _ R)
theorem Hf (a:au) (n c:Nat) (fs:List Fl) (w:World) (t:RdF w (.slice a n c) fs) (F:n=fs.length) (N:n<=1000) (G:(cZ fs).length<=1000000):
  Calls Tryz.prog 113 #[.agg #[.slice a n c]] w fun e w'=>∃v,e=.returned v∧bB w' w.heap.size v (cZ fs)∧ah w w':=by
 have O:=ag t;have H:=ag F;have P:=ag G;obtain ⟨z,j⟩:=ai (w.alloc (.cells #[.slice a n c] 30));have u:ah w z:=by rw [j];exact ae
 have C:=ag (show bG z w.heap.size (.slice a n c) by rw [j];exact bG.new w _);have q:=ag u;clear t F u G;go_enter Tryz.func113,Tryz.ntmps113;go_wp2;rw [<-j];clear j;go_loopw [3,4] (fun v i wr=>∃k:Nat,k<=n∧i=.int .i64 k∧af (bB wr z.heap.size v (cZ (fs.take k)))∧ah z wr) (fun _ i _=>n - (intOf i).toNat)
 case atStart=>exact ⟨0,Nat.zero_le _,rfl,ag (by simpa [cZ] using bB.nil _ _),aB⟩
 case round=>
  obtain ⟨k,W,rfl,d,h⟩:=hrel;have X:=(C.o.a h).cell;have r:ah w wr:=q.o.trans (h.mono q.o.size);by_cases Q:k<n
  ·have I:(k:Int)<n:=by omega
   have s:k<fs.length:=by have:=H.o;omega
   have A:=ag (Z4 fs k s);have B:=ag (show (cZ (fs.take k)).length+(fs[k]).2.length<=1000000 by
    have Y:=P.o;have R:=(qv0 (List.take_sublist (k+1) fs)).length_le;rw [Z4 fs k s,List.length_append] at R;omega)
   have S:wrap64 ((k:Int)+1)=(k:Int)+1:=vo (by omega);obtain ⟨b,T,a2,c2,rfl,U,D,y⟩:=O.o.atB r k s;clear U;obtain ⟨f,J⟩:=ai (fs[k]);rw [<-J] at D y A B;clear J;obtain ⟨x,l⟩:=f;simp only at D y A B
   obtain ⟨p,E⟩:=ai l.length;rw [<-E] at D y;obtain ⟨g,Z,w9,m,K,L⟩:=Er d.o h.size (y.a r) E (by have:=B.o;omega);have M:=ag K;have V:=ag (h.trans L);obtain ⟨av,cv,rfl⟩:=d.o.form;clear K L d B E y;rw [<-A.o] at m M;clear A;generalize (cZ (fs.take k)).length=fl at *;generalize (cZ (fs.take (k+1))).length=gl at *;go_wp2_with (at_builtin;refine ku rfl (.tmp 12) (.tmp 18) 96 rfl rfl rfl rfl m ?_)
   go_roundw
   case rel=>exact ⟨k+1,by omega,rfl,M,V.o⟩
   case measure=>simp only [intOf];omega
  ·have hd:decide ((k:Int)<n)=false:=aA (by omega)
   have e:k=fs.length:=by have:=H.o;omega
   rw [e,List.take_length] at d;clear e;go_wp2;go_ret;exact ⟨_,rfl,d.o.mono q.o.size,r⟩
theorem qmf (a:au) (n c:Nat) (l:List Ex) (B:Int) (w:World) (j:RdE w (.slice a n c) l) (t:n=l.length) (s:∀x∈l,wfX x):
  Calls Tryz.prog 112 #[.slice a n c,.int .i64 B] w fun e w'=>e=.returned (.bool (decide (dL l B)))∧ah w w':=by
 have g:=qop a n c l w j t s;by_cases m:dY l=0
 case neg=>
  have p:=ag (show decide (dL l B)=false by simpa using fun h:dL l B=>absurd h.1 m);obtain ⟨z,D⟩:=ai (dY l);rw [<-D] at g m;have v:(z==0)=false:=by simpa using m
  clear D j t s;go_enter Tryz.func112,Tryz.ntmps112;go_wp2_with fail
  refine g.mono ?_
  rintro e O ⟨rfl,q⟩;go_wp2;go_ret;exact ⟨by rw [p.o];rfl,q⟩
 have E:=ag (LJ m).1;have P:=ag m;rw [m] at g;have Q:n<=4096:=t ▸ (uB E.o).1;have R:=ag j;have F:=ag t;clear j t s m;go_enter Tryz.func112,Tryz.ntmps112;go_wp2_with fail
 refine g.mono ?_
 rintro e O ⟨rfl,q⟩;clear g;go_wp2;go_loopw [5] (fun i wr=>∃k:Nat,k<=n∧i=.int .i64 k∧af (∀x∈l.take k,34<=x.1∧x.1+x.2<=B)∧ah w wr) (fun i _=>n - (intOf i).toNat)
 case atStart=>exact ⟨0,Nat.zero_le _,rfl,ag (by simp),q⟩
 case round=>
  obtain ⟨k,X,rfl,A,d⟩:=hrel;clear q;by_cases S:k<n
  ·have G:(k:Int)<n:=by omega
   have r:k<l.length:=by have:=F.o;omega
   have H:=ag (uE l k r);have T:wrap64 ((k:Int)+1)=(k:Int)+1:=vo (by omega);obtain ⟨b,U,rfl,I,J⟩:=(R.o.a d).at k r;obtain ⟨K,L,M⟩:=(uB E.o).2 _ (List.getElem_mem r);have C:=ag (List.getElem_mem r);obtain ⟨x,N⟩:=ai (l[k]);rw [<-N] at I J H K L M C;clear N;obtain ⟨x,y⟩:=x;simp only at I J K L M
   have Y:IntKind.i64.wrap (x+y)=x+y:=by rw [IntKind.wrap_i64];omega
   by_cases m:x<34
   ·have p:=ag (show decide (dL l B)=false by
     simp only [decide_eq_false_iff_not];intro h;have:=(h.2 _ C.o).1
     simp only at this;omega)
    go_wp2;go_quiet (fail)
    go_wp2;go_ret;exact ⟨by rw [p.o];rfl,below_drewN d _⟩
   have v:decide (x<34)=false:=by simpa using m
   by_cases V:B<x+y
   ·have p:=ag (show decide (dL l B)=false by
     simp only [decide_eq_false_iff_not];intro h;have:=(h.2 _ C.o).2
     simp only at this;omega)
    go_wp2;go_quiet (fail)
    go_wp2;go_ret;exact ⟨by rw [p.o];rfl,below_drewN d _⟩
   have W:decide (B<x+y)=false:=by simpa using V
   have p:=ag (show ∀x∈l.take (k+1),34<=x.1∧x.1+x.2<=B by
    rw [H.o];intro f u;rcases List.mem_append.1 u with u | u
    ·exact A.o f u
    ·obtain rfl:f=(x,y):=by simpa using u
     simp only
     omega)
   go_wp2;go_quiet (fail)
   go_wp2;go_roundw
   case rel=>exact ⟨k+1,by omega,rfl,p,below_drewN d _⟩
   case measure=>simp only [intOf];omega
  ·have Z:decide ((k:Int)<n)=false:=aA (by omega)
   have e:k=l.length:=by have:=F.o;omega
   rw [e,List.take_length] at A;clear e;have p:=ag (show decide (dL l B)=true from decide_eq_true (⟨P.o,A.o⟩:dL l B));go_wp2;go_ret;exact ⟨by rw [p.o];rfl,d⟩
theorem WK (n:Nat) (w:World) (a:n<18446744073709551616):Calls Tryz.prog 161 #[.int .u64 n] w fun e w'=>∃v,e=.returned v∧jq w' w.heap.size v (sm n)∧ah w w':=qoh n w a
theorem Ob (s:ak) (w:World) (a:s.length<=1000000):Calls Tryz.prog 162 #[.string (bs s)] w fun e w'=>∃v,e=.returned v∧jq w' w.heap.size v (tx s)∧ah w w':=by
 have:=Qq (bs s) w (by rw [Lx];omega)
 rwa [Lv] at this
theorem qoq (s:ak) (w:World):Calls Tryz.prog 111 #[.string (bs s)] w fun e w'=>e=.returned (.bool (jw s))∧w'=w:=by
 have d:=Lx s;have c:=ag (show jw s=(decide ((1:Int)<=s.length) && decide ((s.length:Int)<=16)) by
  unfold jw;congr 1<;>exact decide_eq_decide.2 (by omega))
 generalize s.length=n at *;by_cases f:1<=n
 ·have a:(1:Int)<=n:=by omega
  by_cases g:n<=16
  ·have b:(n:Int)<=16:=by omega
   go_enter Tryz.func111,Tryz.ntmps111;go_wp2;go_ret;exact ⟨by rw [c.o];simp [a,b],rfl⟩
  ·have b:decide ((n:Int)<=16)=false:=aA (by omega)
   go_enter Tryz.func111,Tryz.ntmps111;go_wp2;go_ret;exact ⟨by rw [c.o,b];simp,rfl⟩
 ·have a:decide ((1:Int)<=n)=false:=aA (by omega)
  go_enter Tryz.func111,Tryz.ntmps111;go_wp2;go_ret;exact ⟨by rw [c.o,a];simp,rfl⟩
theorem qjt (a:au) (n c:Nat) (fs:List Fl) (w:World) (X:RdF w (.slice a n c) fs) (hn:n=fs.length) (G:okB fs):
  Calls Tryz.prog 114 #[.agg #[.slice a n c]] w fun e w'=>∃v,e=.returned v∧jq w' w.heap.size v (dS fs)∧ah w w':=by
 have hm:n<=1000:=hn ▸ G.1;obtain ⟨q,s⟩:=ai (w.alloc (.cells #[.slice a n c] 30));have H:ah w q:=by rw [s];exact ae
 have I:=ag (show bG q w.heap.size (.slice a n c) by rw [s];exact bG.new w _);have Y:=I.o.cell;rw [s] at Y;have J:=ag H;have HR:=ag (X.a H);have HN:=ag hn;have HK:=ag G;clear X hn G H;go_enter Tryz.func114,Tryz.ntmps114;go_wp2_with fail
 rw [<-s];clear s Y;refine (WK n q (by omega)).mono ?_
 rintro e w1 ⟨v1,rfl,Z,K⟩;have ac:=(I.o.a K).cell;go_wp2;clear ac;go_loopw [4,3] (fun i v wr=>∃k:Nat,k<=n∧i=.int .i64 k∧af (jq wr q.heap.size v (sm n++(fs.take k).flatMap kv))∧ah q wr) (fun i _ _=>n - (intOf i).toNat)
 case atStart=>exact ⟨0,Nat.zero_le _,rfl,ag (by simpa using Z),K⟩
 case round=>
  obtain ⟨k,hk,rfl,d,g⟩:=hrel;have Ms:=(I.o.a g).cell;clear Z K;by_cases aa:k<n
  ·have ab:(k:Int)<n:=by omega
   have N:k<fs.length:=by have:=HN.o;omega
   have HU:=ag (qrq fs k N);have pG:=ag (qv8 HK.o k);have am:wrap64 ((k:Int)+1)=(k:Int)+1:=vo (by omega);obtain ⟨b,an,a2,c2,rfl,q0,q1,q2⟩:=HR.o.atB g k N;have HQ:=ag q2;clear q2;have O:=ag (HK.o.2 _ (List.getElem_mem N));obtain ⟨f,hf⟩:=ai (fs[k]);rw [<-hf] at q0 q1 HQ HU O;clear hf;obtain ⟨L,hL⟩:=ai ((fs.take k).flatMap kv);rw [<-hL] at d HU pG;clear hL;obtain ⟨m,D⟩:=ai f.2.length;rw [<-D] at q1 HQ;have ao:m<=1000:=by rw [D];exact O.o.2.1
   have gT:=ag D;clear D;have pI:=ag (rF (n:=n) (by omega));have sM:=ag (rF (n:=m) (by omega));have Gy:=ag (show (tx f.1).length<=1010 by
    have h1:=O.o.1;have:=rF (n:=f.1.length) (by omega)
    simp only [tx,List.length_append];omega)
   -- the file's copy,its name
   obtain ⟨w2,t⟩:=ai (wr.alloc (.cells #[.string (bs f.1),.slice a2 m c2] 98));obtain ⟨F,hF⟩:=ai wr.heap.size;have u:aQ w2 F (bs f.1) (.slice a2 m c2):=by rw [t,hF];exact aQ.new wr _ _
   have P:ah wr w2:=by rw [t];exact ae
   have aT:ah q w2:=g.trans (P.mono g.size);have jm:=ag (d.o.a P);have s0:=u.cell0;rw [t] at s0;go_wp2_with fail
   rw [<-t];rw [<-hF];clear d s0;refine (Ob f.1 _ (by have:=O.o.1;omega)).mono ?_
   rintro e w3 ⟨v3,rfl,z,h⟩;have Q:ah q w3:=aT.trans (h.mono aT.size);obtain ⟨v4,U,kw,iW,A,B⟩:=Es (jm.o.a h) Q.size (BA z) (by
    have h1:=pI.o;have h2:=pG.o;have h3:=Gy.o;rw [List.length_append];omega)
   have V:ah q U:=Q.trans A;have R:aQ U F (bs f.1) (.slice a2 m c2):=B _ _ _ _ (by decide) (iV.of_below h _ _ _ _ (by decide) u);have r4:=R.cell1;have mD:=ag iW;have S:=ag V;have yN:=ag R;clear iW V A B z h Q u P t aT jm R g q0 q1 Ms hF;go_wp2_with (first | (at_builtin;refine ku rfl (.tmp 24) (.tmp 27) 22 rfl rfl rfl rfl kw ?_) | fail)
   refine (WK m _ (by omega)).mono ?_
   rintro e w5 ⟨v5,rfl,nE,l⟩;have T:ah q w5:=S.o.trans (l.mono S.o.size);obtain ⟨v6,w6,lY,lu,C,BJ⟩:=Es (mD.o.a l) T.size (BA nE) (by
    have h1:=pI.o;have h2:=pG.o;have h3:=Gy.o;have h4:=sM.o;simp only [List.length_append];omega)
   have sN:ah q w6:=T.trans C;have r:aQ w6 F (bs f.1) (.slice a2 m c2):=BJ _ _ _ _ (by decide) (iV.of_below l _ _ _ _ (by decide) yN.o);have r6:=r.cell1;have vD:=ag lu;have vG:=ag sN;have PP:=ag r;clear lu sN C BJ nE l T r mD S yN r4 kw;go_wp2_with (at_builtin;refine ku rfl (.tmp 29) (.tmp 34) 22 rfl rfl rfl rfl lY ?_)
   go_loopw [6,3] (fun i v wx=>∃j:Nat,j<=m∧i=.int .i64 j∧af (jq wx q.heap.size v (sm n++L++tx f.1++sm m++dZ (f.2.take j)))∧af (aQ wx F (bs f.1) (.slice a2 m c2))∧ah q wx) (fun i _ _=>m - (intOf i).toNat)
   case atStart=>exact ⟨0,Nat.zero_le _,rfl,ag (by simpa [dZ] using vD.o),PP,vG.o⟩
   case round=>
    obtain ⟨j,hj,rfl,d,GM,g⟩:=hrel;have mK:=ag aa;clear vD vG r6 lY ab aa PP;have s1:=GM.o.cell1;by_cases ap:j<m
    ·have CJ:(j:Int)<m:=by omega
     have aq:wrap64 ((j:Int)+1)=(j:Int)+1:=vo (by omega);have E:j<f.2.length:=by have:=gT.o;omega
     have HE:=ag (qrr f.2 j E);obtain ⟨bx,ox,rfl,p0,p1⟩:=(HQ.o.a g).at j E;have W:=ag (O.o.2.2 _ (List.getElem_mem E));have jH:=ag (show (dZ (f.2.take j)).length<=20000 by
      have:=Wn (f.2.take j) (fun x hx=>O.o.2.2 x (List.mem_of_mem_take hx))
      have h2:=O.o.2.1;rw [List.length_take] at this;omega)
     have HP:=ag (fun (wz:World) (hz:ah q wz)=>(HQ.o.a hz).at j E);obtain ⟨x,hx⟩:=ai (f.2[j]);rw [<-hx] at p0 p1 HE W HP;clear hx;obtain ⟨x,y⟩:=x;obtain ⟨x,rfl⟩:∃p:Nat,x=p:=⟨x.toNat,by have:=W.o.1;simp only at this;omega⟩;obtain ⟨y,rfl⟩:∃p:Nat,y=p:=⟨y.toNat,by have:=W.o.2.2.1;simp only at this;omega⟩
     have ar:x<=4096:=by have:=W.o.2.1;simp only at this;omega
     have av:y<=4096:=by have:=W.o.2.2.2;simp only at this;omega
     simp only at p0 p1
     have ad:=ag (show dZ (f.2.take (j+1))=dZ (f.2.take j)++(sm x++sm y) by have:=HE.o;simpa [kM] using this);clear HE W;obtain ⟨M,hM⟩:=ai (sm n++L++tx f.1++sm m++dZ (f.2.take j));have BK:=ag (show M.length<=100000000 by
      have h1:=pI.o;have h2:=pG.o;have h3:=Gy.o;have h4:=sM.o;have h5:=jH.o;rw [hM];simp only [List.length_append];omega)
     rw [<-hM] at d;have HM:=ag hM;clear hM;have Pi:=ag (rF (n:=x) (by omega));have al:=ag (rF (n:=y) (by omega));go_wp2_with fail
     refine (WK x _ (by omega)).mono ?_
     rintro e w3 ⟨v3,rfl,z,h⟩;have Q:ah q w3:=g.trans (h.mono g.size);obtain ⟨v4,U,kw,iW,A,B⟩:=Es (d.o.a h) Q.size (BA z) (by
      have h1:=BK.o;have h2:=Pi.o;omega)
     have V:ah q U:=Q.trans A;have R:aQ U F (bs f.1) (.slice (some ⟨bx,ox,none⟩) m c2):=B _ _ _ _ (by decide) (iV.of_below h _ _ _ _ (by decide) GM.o);have r4:=R.cell1;obtain ⟨aw,ax,e4,p2,p3⟩:=HP.o U V;cases e4;have mD:=ag iW;have S:=ag V;have yN:=ag R;clear iW V A B z h Q R g p0 p1 d GM s1 p2;go_wp2_with (first | (at_builtin;refine ku rfl (.tmp 43) (.tmp 51) 22 rfl rfl rfl rfl kw ?_) | fail)
     refine (WK y _ (by omega)).mono ?_
     rintro e w5 ⟨v5,rfl,nE,l⟩;have T:ah q w5:=S.o.trans (l.mono S.o.size);obtain ⟨v6,w6,lY,lu,C,BJ⟩:=Es (mD.o.a l) T.size (BA nE) (by
      have h1:=BK.o;have h2:=Pi.o;have h3:=al.o;simp only [List.length_append];omega)
     have vD:=ag lu;have vG:=ag (T.trans C);have PP:=ag (show aQ w6 F (bs f.1) (.slice (some ⟨bx,ox,none⟩) m c2) from BJ _ _ _ _ (by decide) (iV.of_below l _ _ _ _ (by decide) yN.o));clear lu C BJ nE l T mD S r4 kw yN p3 HP;go_wp2_with (at_builtin;refine ku rfl (.tmp 53) (.tmp 61) 22 rfl rfl rfl rfl lY ?_)
     go_roundw
     case rel=>exact ⟨j+1,by omega,rfl,ag (by
      rw [ad.o];have:=vD.o
      rw [HM.o] at this;simpa using this),PP,vG.o⟩
     case measure=>simp only [intOf];omega
    ·have ay:decide ((j:Int)<m)=false:=aA (by omega)
     have e:j=f.2.length:=by have:=gT.o;omega
     rw [e,List.take_length] at d;have HO:=ag (d.o);clear e d;go_wp2;go_roundw
     case rel=>exact ⟨k+1,mK.o,rfl,ag (by
      rw [HU.o];have:=HO.o
      rw [gT.o] at this;simpa [kv] using this),g⟩
     case measure=>have:=mK.o;simp only [intOf];omega
  ·have hd:decide ((k:Int)<n)=false:=aA (by omega)
   have e:k=fs.length:=by have:=HN.o;omega
   rw [e,List.take_length] at d;clear e;go_wp2;go_ret;refine ⟨_,rfl, ?_,J.o.trans (g.mono J.o.size)⟩;have:=VJ d.o J.o.size
   unfold dS;rw [<-HN.o];exact this
theorem nK (p q:Nat) (s:ByteArray) (x:Value):aL (Two p q s x):=fun _ _ h a=>h.a a
theorem qkf (s:ak) (a:au) (n c:Nat) (l:List Ex) (w:World) (r:RdE w (.slice a n c) l) (E:n=l.length) (L:l.length<=1000000):
  Calls Tryz.prog 49 #[.agg #[.string (bs s),.slice a n c]] w fun e w'=>∃M N,e=.returned (.agg #[.string (bs s),.slice M n N])∧bB w' w.heap.size (.slice M n N) l∧ah w w':=by
 obtain ⟨b,A⟩:∃b,b=(w.alloc (.cells #[.string (bs s),.slice a n c] 98)).alloc (.cells #[.string {data:=#[]},.slice none 0 0] 98):=⟨_,rfl⟩
 have d:ah w b:=by rw [A];exact (ae).alloc (by simp) _
 have F:Two w.heap.size (w.heap.size+1) (bs s) (.slice a n c) b:=by
  rw [A];refine ⟨by omega, ?_,.string {data:=#[]},.slice none 0 0, ?_⟩
  ·have:=heap_alloc_new w (.cells #[.string (bs s),.slice a n c] 98)
   rw [<-this];exact ((Below.refl (w.alloc (.cells #[.string (bs s),.slice a n c] 98)).heap.size _).alloc aI _).block _ (by simp)
  ·have:=heap_alloc_new (w.alloc (.cells #[.string (bs s),.slice a n c] 98)) (.cells #[.string {data:=#[]},.slice none 0 0] 98)
   simpa using this
 obtain ⟨h,j,f,g,B,O⟩:=Er (w:=b.drew) (base:=b.heap.size) (bB.nil _ _) aI ((r.a d).a ((Below.refl b.heap.size b).drew)) E (by simpa using L);rw [List.nil_append,<-E] at g B;have G:ah b f:=((Below.refl b.heap.size b).drew).trans O;have m:=F.a G;have W:=Two.e0 f m;have P:=Two.e1 f m;have X:=Two.fz f m 0;have Y:=Two.fz f m 1;obtain ⟨t,u⟩:=m.put (.string (bs s)) (.slice h n j);obtain ⟨y,z,Q⟩:=m.2.2;have H:=wR (w:=f) (q:=w.heap.size+1) (.string (bs s)) (.slice h n j);have p:ah w f:=d.trans (G.mono d.size);have R:=ag (show bB ((f.setCell ⟨w.heap.size+1,0,none⟩ (.string (bs s))).setCell ⟨w.heap.size+1,1,none⟩ (.slice h n j)) w.heap.size (.slice h n j) l from bB.mono (World.ownsRow.kept B H (.inr (B.apartF Q))) d.size);have S:=ag (p.grown H p.size (by intro k Z;cases Z;omega));have x:=ag F;have I:=ag m;have T:=ag t;have J:=ag u;clear r E L O G m t u Q H p B F d;go_enter Tryz.func49,Tryz.ntmps49;go_wp2;rw [<-A];clear A;refine gH (nK w.heap.size (w.heap.size+1) (bs s) (.slice a n c)) (by kernel_rfl) x.o ?_
 intro U;refine dm [0,1,2,3] (fuel:=3) (a':=?Mg) (by kernel_rfl) (by kernel_rfl) (by kernel_rfl) ?xO U ?Mh
 case xO=>
  iterate 4 (apply Yl.cons rfl (by kernel_rfl);focus (intro K C;have P:=Two.c0 K C;have x2:=Two.c1 K C;clear C;go_simp<;>with_reducible rfl);try simp only [az])
  exact Yl.nil
 refine uS (i:=4) (v:=.slice h n j) (w':=f) rfl (by kernel_rfl) (by rfl) (En (v:=.slice none 0 0) (y:=.slice a n c) rfl rfl rfl g) I.o ?_
 try simp only [az]
 refine dm [5] (fuel:=1) (a':=?qa2) (by kernel_rfl) (by kernel_rfl) (by kernel_rfl) ?GG I.o ?qn2
 case GG=>
  iterate 1 (apply Yl.cons rfl (by kernel_rfl);focus (intro K C;go_simp<;>with_reducible rfl);try simp only [az])
  exact Yl.nil
 refine nL (i:=6) (w':=(f.setCell ⟨w.heap.size+1,0,none⟩ (.string (bs s))).setCell ⟨w.heap.size+1,1,none⟩ (.slice h n j)) rfl (by kernel_rfl) (by rfl) (by go_simp) T.o ?_
 try simp only [az]
 refine wpAnyH_done (by kernel_rfl) ?_ _
 refine NoPanic.normal ?_
 obtain ⟨D,V⟩:=ai ((f.setCell ⟨w.heap.size+1,0,none⟩ (.string (bs s))).setCell ⟨w.heap.size+1,1,none⟩ (.slice h n j));rw [<-V] at R S J ⊢;have r0:D.cell? ⟨w.heap.size+1,0,none⟩=some (.string (bs s)):=by rw [cell_of_row D _ 0 _ _ (0,0) J.o];rfl
 have r1:D.cell? ⟨w.heap.size+1,1,none⟩=some (.slice h n j):=by rw [cell_of_row D _ 1 _ _ (0,0) J.o];rfl
 clear V W P X Y g U T I x;go_wp2;try simp only [Exit.inBlock,Exit.then]
 refine bodyPost_ret (v:=.agg #[.string (bs s),.slice h n j]) ?_ rfl ⟨_,_,rfl,R.o,S.o⟩
 simp [results,Tryz.results49,go_sem, *]
def GN (w:World) (s:ak) (p:Nat) (l:List Ex) (v:Value) (wx:World):Prop:=∃a7 c7,v=.agg #[.string (bs s),.slice a7 p c7]∧bB wx w.heap.size (.slice a7 p c7) l∧ah w wx
theorem Mt (s:ak) (a:au) (n c:Nat) (l:List Ex) (w:World) (b:RdE w (.slice a n c) l) (d:n=l.length) (f:l.length<=1000000):
  Calls Tryz.prog 49 #[.agg #[.string (bs s),.slice a n c]] w.drew fun e w'=>∃v,e=.returned v∧GN w s n l v w':=
 (qkf s a n c l w.drew (b.a ((Below.refl w.heap.size w).drew)) d f).mono fun e w' ⟨a7,c7,h1,h2,h3⟩=>⟨_,h1,a7,c7,rfl,h2,((Below.refl w.heap.size w).drew).trans h3⟩
def rV (B q r x:Nat) (dv v:Value) (w:World):Prop:=(q<B∧r<B∧x<B∧q≠x∧r≠x)∧bG w q dv∧dV w r∧bG w x v
theorem rV.low {B q r x:Nat} {dv v:Value} {w w':World} (h:rV B q r x dv v w) (hb:Below B w w'):rV B q r x dv v w':=by
 obtain ⟨⟨a,b,c,d,e⟩,f,⟨y,g⟩,i⟩:=h;exact ⟨⟨a,b,c,d,e⟩,(hb.block q a).trans f,⟨y,(hb.block r b).trans g⟩,(hb.block x c).trans i⟩
theorem rV.keeps (B q r x:Nat) (dv v:Value):aL (rV B q r x dv v):=fun w w' h a=>by
 obtain ⟨b,c,d,e⟩:=h;exact ⟨b,c.a a,d.a a,e.a a⟩
theorem rV.put {B q r x:Nat} {dv v:Value} {w:World} (h:rV B q r x dv v w) (u:Value):rV B q r x dv u (w.setCell ⟨x,0,none⟩ u):=by
 obtain ⟨⟨c,d,e,a,b⟩,f,⟨y,g⟩,i⟩:=h;refine ⟨⟨c,d,e,a,b⟩,(heap_setCell_other w ⟨x,0,none⟩ q u a).trans f,⟨y,(heap_setCell_other w ⟨x,0,none⟩ r u b).trans g⟩, ?_⟩;have:=heap_setCell_same w x 0 #[v] 30 u i
 unfold bG;rw [this];rfl
theorem rV.fz {B q r x:Nat} {dv v:Value} {w:World} (h:rV B q r x dv v w):w.frozen? ⟨x,0,none⟩=false:=frozen_of_row w x 0 _ _ h.2.2.2
theorem qwn {B q r x:Nat} {dv v u:Value} {w0 w:World} {fs:List Fl} (e:w0.heap.size<=B) (a:ah w0 w) (f:w0.heap.size<=x) (h:rV B q r x dv v w) (c:bJ w B u fs):
  rV B q r x dv u (w.setCell ⟨x,0,none⟩ u)∧bJ (w.setCell ⟨x,0,none⟩ u) B u fs∧ah w0 (w.setCell ⟨x,0,none⟩ u):=by
 have b:=lV w ⟨x,0,none⟩ u;exact ⟨h.put u,c.keptS b h.2.2.2 (by decide) (by decide),a.grown b a.size (by intro k d;cases d;omega)⟩
theorem qor (a:au) (n c:Nat) (fs:List Fl) (w:World) (I:RdF w (.slice a n c) fs) (hn:n=fs.length) (ao:n<=1000) (J:∀f∈fs,f.2.length<=1000000):
  Calls Tryz.prog 19 #[.agg #[.slice a n c]] w fun e w'=>∃v,e=.returned (.agg #[v])∧bJ w' w.heap.size v (fs)∧ah w w':=by
 obtain ⟨W0,m⟩:=ai (((w.alloc (.cells #[.slice a n c] 30)).alloc (.cells #[.slice none 0 0] 30)).alloc (.cells #[.slice none 0 0] 30));have K:ah w W0:=by rw [m];exact ((ae).alloc (by simp) _).alloc (by simp;omega) _
 have HR:=ag I;have HN:=ag hn;have Aa:=ag J;obtain ⟨Q,hQ⟩:=ai w.heap.size;obtain ⟨L,C⟩:=ai (w.heap.size+1);obtain ⟨X,Z⟩:=ai (w.heap.size+1+1);obtain ⟨B,hB⟩:=ai (w.heap.size+3);have aa:=ag (show rV B Q L X (.slice a n c) (.slice none 0 0) W0 by
  rw [m,hB,hQ,C,Z];refine ⟨⟨by omega,by omega,by omega,by omega,by omega⟩, ?_, ?_, ?_⟩
  ·exact ((bG.new w (.slice a n c)).a (ae)).a (ae)
  ·have:=(dV.new (w.alloc (.cells #[.slice a n c] 30)) (.slice none 0 0)).a (aB.alloc aI (.cells #[.slice none 0 0] 30))
   simpa using this
  ·have:=bG.new ((w.alloc (.cells #[.slice a n c] 30)).alloc (.cells #[.slice none 0 0] 30)) (.slice none 0 0)
   simpa using this)
 have iO:=ag (show w.heap.size<=B by omega);have ab:=ag (show w.heap.size<=X by omega);have WL:=ag (show w.heap.size<=L by omega);have jy:=ag (show B<=W0.heap.size by rw [m,hB];simp);have ac:=ag K;clear I hn J K hB;go_enter Tryz.func19,Tryz.ntmps19;go_wp2;rw [<-m];clear m
 first | rw [<-Z] | rw [show w.heap.size+2=X from Z.symm]
 rw [<-C];rw [<-hQ];clear hQ Z C;go_loopw [4] (fun i wr=>∃k:Nat,k<=n∧i=.int .i64 k∧∃v,af (rV B Q L X (.slice a n c) v wr)∧af (bJ wr B v (fs.take k))∧ah w wr∧B<=wr.heap.size) (fun i _=>n - (intOf i).toNat)
 case atStart=>exact ⟨0,Nat.zero_le _,rfl,.slice none 0 0,aa,ag (by simpa [Z0] using bJ.nil _ _),ac.o,jy.o⟩
 case round=>
  obtain ⟨k,hk,rfl,v,u,g,d,wM⟩:=hrel;have Ms:=u.o.2.1.cell;by_cases ap:k<n
  ·have an:(k:Int)<n:=by omega
   have D:k<fs.length:=by have:=HN.o;omega
   have HT:=ag (uE fs k D);have aq:wrap64 ((k:Int)+1)=(k:Int)+1:=vo (by omega);obtain ⟨b,q,a2,c2,rfl,k0,k1,q2⟩:=HR.o.at k D;have r:=ag (show ∀wz:World,ah w wz->wz.cell? ⟨b,q+k*2,none⟩=some (.string (bs (fs[k]).1))∧wz.cell? ⟨b,q+k*2+1,none⟩=some (.slice a2 (fs[k]).2.length c2) from fun wz M=>⟨(M.cell (World.block_lt_of_cell? w _ k0)).trans k0,(M.cell (World.block_lt_of_cell? w _ k1)).trans k1⟩);obtain ⟨q0,N⟩:=r.o wr d;clear k0 k1;have vI:=ag (Aa.o _ (List.getElem_mem D));have sO:=ag q2;clear q2;obtain ⟨f,hf⟩:=ai (fs[k]);rw [<-hf] at q0 N sO HT vI r;clear hf;obtain ⟨s,l⟩:=f;simp only at q0 N sO vI r
   obtain ⟨p,hp⟩:=ai l.length;rw [<-hp] at N sO r;have HP:=ag hp;clear hp;have uH:=ag (show (fs.take k).length<=1000 by rw [List.length_take];omega);obtain ⟨j,h⟩:=ai ((fs.take k).length);obtain ⟨x,z,qJ⟩:∃x z,v=.slice x j z:=by rw [h];exact g.o.form
   subst qJ;have oV:=ag h;clear h;have ky:=ag (Mt s a2 p c2 l wr (sO.o.a d) HP.o vI.o);obtain ⟨S,O⟩:∃S:World->Prop,S=fun P=>rV B Q L X (.slice (some ⟨b,q,none⟩) n c) (.slice x j z) P∧P.cell? ⟨b,q+k*2,none⟩=some (.string (bs s))∧P.cell? ⟨b,q+k*2+1,none⟩=some (.slice a2 p c2):=⟨_,rfl⟩
   have T:aL S:=by rw [O];exact (rV.keeps _ _ _ _ _ _).and ((aR _ _).and (aR _ _))
   have A:S wr:=by rw [O];exact ⟨u.o,q0,N⟩
   have ll:=ag (show ∀wz,Below B wr wz->S wz from fun wz M=>by
    rw [O];obtain ⟨z0,z1⟩:=r.o wz (d.trans (M.mono iO.o));exact ⟨u.o.low M,z0,z1⟩)
   rw [O] at T A ll;clear O q0 N;have U:=u.o.2.1.cell;go_wp2;refine rH T 11 (by kernel_rfl) A ?_
   intro E;refine pg [0,1,2,3,4,5,6] (fuel:=5) (a':=?iD) (by kernel_rfl) (by kernel_rfl) (by kernel_rfl) ?dn E ?iE
   case dn=>
    iterate 7 (apply Yl.cons rfl (by kernel_rfl);focus (rintro P ⟨F,V⟩;(have x1:=F.2.1.cell);(have x3:=F.2.2.2.cell);(have W:=V);clear F V;try (obtain ⟨W,x5⟩:=W);go_simp<;>with_reducible rfl);try simp only [az])
    exact Yl.nil
   refine uU (i:=7) (R:=GN wr s p l) rfl (by kernel_rfl) (by rfl) (by go_simp) ky.o ?_
   rintro v7 w7 ⟨a7,c7,rfl,jA,Y⟩;have eu:=T _ _ A Y;refine ⟨eu, ?_⟩;obtain ⟨g9,c9,G,t,bN,bI⟩:=Eu (g.o.a Y) (aC wM Y.size) (by have:=uH.o;omega) s (.slice a7 p c7) l (jA.mono wM);rw [<-oV.o] at t bN;have eF:Below B wr G:=(Y.mono wM).trans bI;have H:=ll.o G eF;have nz:=T _ (w7.alloc (.cells #[.string (bs s),.slice a7 p c7] 98)) eu (ae);have x9:=H.1.2.2.2.cell;have z9:=H.1.fz;clear E;have E:=eu;try simp only [az]
   refine lL (i:=8) (v:=.slice (some ⟨w7.heap.size,0,none⟩) 1 1) (w':=w7.alloc (.cells #[.string (bs s),.slice a7 p c7] 98)) rfl (by kernel_rfl) (by rfl) (by go_simp) (fun _=>nz) ?_
   try simp only [az]
   refine lL (i:=9) (v:=.slice (some ⟨g9,0,none⟩) (j+1) c9) (w':=G) rfl (by kernel_rfl) (by rfl) (En (v:=.slice x j z) (y:=.slice (some ⟨w7.heap.size,0,none⟩) 1 1) rfl rfl rfl t) (fun _=>H) ?_
   clear E;have E:=H;try simp only [az]
   refine uy (i:=10) (v:=?wK) rfl (by kernel_rfl) (by kernel_rfl) (by kernel_rfl) rfl (by kernel_rfl) (by kernel_rfl) (by rfl) ?lU E ?wL
   case lU=>(rintro P ⟨F,V⟩;(have x1:=F.2.1.cell);(have x3:=F.2.2.2.cell);(have W:=V);clear F V;try (obtain ⟨W,x5⟩:=W);go_simp<;>with_reducible rfl)
   try simp only [az]
   refine rJ (i:=11) (w':=G.setCell ⟨X,0,none⟩ (.slice (some ⟨g9,0,none⟩) (j+1) c9)) rfl (by kernel_rfl) (by kernel_rfl) (by rfl) (by go_simp) ?_
   try simp only [az]
   refine rM (by kernel_rfl) ?_ _
   refine NoPanic.normal ?_
   obtain ⟨t1,t2,t3⟩:=qwn iO.o (d.trans (eF.mono iO.o)) ab.o H.1 bN;have ad:=ag t1;have al:=ag (show bJ _ B _ (fs.take (k+1)) by rw [HT.o];exact t2);have am:=ag t3;have nG:=ag (show B<=(G.setCell ⟨X,0,none⟩ (.slice (some ⟨g9,0,none⟩) (j+1) c9)).heap.size from aC (aC wM eF.size) (lV _ _ _).size);clear t1 t2 t3 bN bI eF t x9 z9 E eu H nz jA Y T A ll;generalize G.setCell ⟨X,0,none⟩ (.slice (some ⟨g9,0,none⟩) (j+1) c9)=wz at *;go_wp2;go_roundw
   case rel=>exact ⟨k+1,by omega,rfl,_,ad,al,am.o,nG.o⟩
   case measure=>simp only [intOf];omega
  ·have hd:decide ((k:Int)<n)=false:=aA (by omega)
   have e:k=fs.length:=by have:=HN.o;omega
   rw [e,List.take_length] at g;clear e;have U:=u.o.2.1.cell;have PR:=u.o.2.2.2.cell;have hc:=u.o.2.2.1.cell;have hf:=u.o.2.2.1.fz;obtain ⟨j,h⟩:=ai ((fs).length);obtain ⟨x,z,qJ⟩:∃x z,v=.slice x j z:=by rw [h];exact g.o.form
   subst qJ;clear h;obtain ⟨z0,hg, -⟩:=u.o.2.2.1.put (.slice x j z);obtain ⟨y,hy⟩:=u.o.2.2.1;have HO:=ag (g.o.keptS hg hy (by decide) (by decide));have jH:=ag (d.grown hg d.size (by intro k hk;cases hk;have:=WL.o;omega));clear hy hg;go_wp2;obtain ⟨G,aN⟩:=ai (wr.setCell ⟨L,0,none⟩ (.slice x j z));rw [<-aN] at z0 HO jH ⊢;try simp only [Exit.inBlock,Exit.then]
   refine bodyPost_ret (v:=.agg #[.slice x j z]) ?_ rfl ⟨_,rfl,HO.o.mono iO.o,jH.o⟩
   clear aN hc U PR hf;simp [results,Tryz.results19,go_sem, *]
end Go.Proofs.YthpammbgcidloaaGreat
