/-
  What the statement RoomTakes answers.
-/
import Derived.Test.YtmeaiocohalphaaGreatDoorRmRef
import Derived.Lib.SmallJoins
set_option maxHeartbeats 4000000
set_option maxRecDepth 100000
namespace Go.Proofs.YtmeaiocohalphaaGreatDoor
open Go.RowKit
set_option linter.all false
variable {L O:List Ex}{W Z:Int}{i:Nat}
theorem Ve{k:Nat}(h:k<1000000000):wrap64 ((k:Int)+1-1)=(k:Int):=by unfold wrap64;omega
theorem qacf(A B:Int)(a:aA)(n c:Nat)(l:List Ex)(w:World)(J:iB w (.slice a n c) l)(hn:n=l.length)(Z:∀x∈l,jg x):
  Calls Tryz.prog 195 #[.int .i64 A,.int .i64 B,.slice a n c] w fun e w'=>∃v,e=.returned (.tuple #[v,.int .i64 (kH A B l)])∧bA w' w.heap.size v (jN A B l)∧ah w w':=by
 have aa:n<=maxLen:=hn▸J.len_le;have HR:=ag J;have K:=ag hn;have HW:=ag Z;clear J hn Z;by_cases h1:A<0
 ·have r:=ag (Qp (B:=B) (l:=l) (.inl h1:A<0∨B<A∨4096<B))
  go_enter Tryz.func195,Tryz.ntmps195;go_wp2;go_ret2;exact⟨_,by rw[r.o.1];rfl,by rw[r.o.2];exact bA.nil _ _,aF⟩
 have ab:decide (A<0)=false:=by simpa using h1
 by_cases h2:B<A
 ·have r:=ag (Qp (B:=B) (l:=l) (.inr (.inl h2):A<0∨B<A∨4096<B))
  go_enter Tryz.func195,Tryz.ntmps195;go_wp2;go_ret2;exact⟨_,by rw[r.o.1];rfl,by rw[r.o.2];exact bA.nil _ _,aF⟩
 have ac:decide (B<A)=false:=by simpa using h2
 by_cases h3:4096<B
 ·have r:=ag (Qp (A:=A) (l:=l) (.inr (.inr h3):A<0∨B<A∨4096<B))
  go_enter Tryz.func195,Tryz.ntmps195;go_wp2;go_ret2;exact⟨_,by rw[r.o.1];rfl,by rw[r.o.2];exact bA.nil _ _,aF⟩
 have ad:decide (4096<B)=false:=by simpa using h3
 obtain⟨p,rfl⟩:∃p:Nat,A=p:=⟨A.toNat,by omega⟩;obtain⟨m,hm⟩:∃m:Nat,B=p+m:=⟨(B-p).toNat,by omega⟩;have Y:=ag (qsa (A:=(p:Int)) (B:=B) (l:=l) (by omega));have r:=ag hm
 have ai:p+m<=4096:=by omega
 clear hm;by_cases g1:n > 4096
 ·have D:=ag (show dE l=4 by have:=K.o;unfold dE;rw[if_pos (by omega)])
  have HL:=ag (rX (A:=(p:Int)) (B:=B) (l:=l) (by rw[Y.o,D.o];decide));have M:(4096:Int)<n:=by omega
  unfold maxLen at aa;go_enter Tryz.func195,Tryz.ntmps195;go_wp2;go_ret2;exact⟨_,by rw[Y.o,D.o];rfl,by rw[HL.o];exact bA.nil _ _,aF⟩
 have M:decide ((4096:Int)<n)=false:=aC (by omega);clear aa;go_enter Tryz.func195,Tryz.ntmps195;go_wp2;go_loopw [8] (fun i wr=>∃k:Nat,k<=n∧i=.int .i64 k∧af (∀x∈l.take k,eP x=true)∧ah w wr) (fun i _=>n-(intOf i).toNat)
 case atStart=>exact⟨0,Xd5 _,rfl,ag (by simp),aF⟩
 obtain⟨k,hk,rfl,y,d⟩:=hrel;by_cases aW:k<n
 ·have aE:(k:Int)<n:=by omega
  have E:k<l.length:=by have:=K.o;omega
  have aj:wrap64 ((k:Int)+1)=(k:Int)+1:=wQ (by omega);obtain⟨b,aw,e,q0,q1⟩:=(HR.o.a d).at k E;subst e;go_wp2_with fail
  refine(qwn (l[k]) (HW.o _ (Xa3 E)) _).mono ?_
  rintro e wc⟨rfl,al⟩;have ji:ah w wc:=d.trans (al.mono d.size);clear al;cases hp:eP l[k]with
  |false=>
   have D:=ag (qoz E (by have:=K.o;omega) hp);have HL:=ag (rX (A:=(p:Int)) (B:=B) (l:=l) (by rw[Y.o,D.o];decide));clear hp;go_wp2;go_ret2;exact⟨_,by rw[Y.o,D.o];rfl,by rw[HL.o];exact bA.nil _ _,ji⟩
  |true=>
   have HA:=ag (show ∀x∈l.take (k+1),eP x=true by
    intro x F;rw[qw l k E]at F;rcases Xa5.1 F with F|F
    ·exact y.o x F
    rw[Xb3.1 F];exact hp)
   clear hp;go_wp2;go_roundw
   case rel=>exact⟨k+1,by omega,rfl,HA,ji⟩
   simp only[intOf];omega
 have hd:decide ((k:Int)<n)=false:=aC (by omega);have e:k=l.length:=by have:=K.o;omega
 have D:=ag (show dE l=0 from qk2 (by have:=K.o;omega) (by rw[<-e];exact y.o));have qM:=ag (fun x F=>(sF x).2 ((wL D.o).2 x F):∀x∈l,eP x=true);clear e y HW;go_wp2;go_loopw [9,10] (fun v i wr=>∃k:Nat,k<=m∧i=.int .i64 ((p:Int)+(k:Int))∧af (bA wr w.heap.size v (kG (ek l) p k))∧ah w wr) (fun _ i _=>(B-intOf i).toNat)
 case atStart=>exact⟨0,Xd5 _,by simp,ag (bA.nil _ _),d⟩
 obtain⟨k,hk,rfl,ho,d⟩:=hrel;by_cases uU:k<m
 ·have LW:(p:Int)+(k:Int)<B:=by have:=r.o;omega
  have am:wrap64 ((p:Int)+(k:Int)+1)=(p:Int)+(k:Int)+1:=by unfold wrap64;omega
  have z:=ZH (ek l) p k;have an:=ag (qr2 (u:=ek l) (a:=p) (k:=k) (by omega) (by omega));have vD:=ag (show kG (ek l) p (k+1)=if ek l ((p:Int)+(k:Int))then kG (ek l) p k else Ad (kG (ek l) p k) ((p:Int)+(k:Int))from rfl);have ao:0<=(p:Int)+(k:Int):=by omega
  have ap:(p:Int)+(k:Int)<4096:=by omega
  have mK:=ag (show k+1<=m from uU);obtain⟨N,G⟩:∃N:Int,N=(p:Int)+(k:Int):=⟨_,rfl⟩;rw[<-G]at LW am vD ao ap;have LX:=ag G;rw[<-G];clear G;obtain⟨L,hL⟩:=ak (kG (ek l) p k);rw[<-hL]at ho z an vD;clear hL;obtain⟨a7,c7,rfl⟩:=ho.o.form;generalize hq:L.length=q at *;have O:=ag hq;clear hq;go_wp2
  go_loopw [11,12] (fun s i wr=>∃j:Nat,j<=n∧i=.int .i64 j∧s=.bool (ek (l.take j) N)∧af (bA wr w.heap.size (.slice a7 q c7) L)∧ah w wr) (fun _ i _=>n-(intOf i).toNat)
  case atStart=>exact⟨0,Xd5 _,rfl,by simp[ek],ho,d⟩
  obtain⟨j,hj,rfl,rfl,f,H⟩:=hrel;by_cases aY:j<n
  ·have aH:(j:Int)<n:=by omega
   have Q:j<l.length:=by have:=K.o;omega
   have aj:wrap64 ((j:Int)+1)=(j:Int)+1:=wQ (by omega);obtain⟨b,aw,e,q0,q1⟩:=(HR.o.a H).at j Q;subst e;have HS:=ag (show ek (l.take (j+1)) N=(ek (l.take j) N ||iQ l[j] N)by rw[qw l j Q,JP]);have qN:n<=4096:=by omega
   clear am ao ap z LW h1 ab h2 ac h3 ad g1 M hk uU ai;cases hi:ek (l.take j) N with
   |true=>
    have nk:=ag (show ek (l.take (j+1)) N=true by rw[HS.o,hi];rfl);clear hi;go_wp2;go_roundw
    case rel=>exact⟨j+1,by omega,rfl,by rw[nk.o],f,H⟩
    simp only[intOf];omega
   |false=>
    have nk:=ag (show ek (l.take (j+1)) N=iQ l[j] N by rw[HS.o,hi];simp);clear hi;go_wp2_with fail
    refine(I5 (l[j]) (qM.o _ (Xa3 Q)) N _).mono ?_
    rintro e wd⟨rfl,S⟩;have ax:=ag (f.o.a S);have aq:=H.trans (S.mono H.size);clear S;go_wp2;go_roundw
    case rel=>exact⟨j+1,by omega,rfl,by rw[nk.o],ax,aq⟩
    simp only[intOf];omega
  have hd:decide ((j:Int)<n)=false:=aC (by omega);have HI:=ag (show ek (l.take j) N=ek l N by rw[Xa1 (by have:=K.o;omega)]);have a0:q<=4096:=by omega
  clear h1 ab h2 ac h3 ad g1 M hk uU ai z;rw[HI.o];cases hi:ek l N with
  |true=>
   have T:=ag (show bA wr w.heap.size (.slice a7 q c7) (kG (ek l) p (k+1))by rw[vD.o,hi,if_pos rfl];exact f.o);clear hi;go_wp2;go_roundw
   case rel=>exact⟨k+1,mK.o,congrArg (Value.int .i64) (by have:=LX.o;omega),T,H⟩
   simp only[intOf];omega
  |false=>
   have HG:=ag (show kG (ek l) p (k+1)=Ad L N by rw[vD.o,hi];rfl);have tq:=ag (qwo f.o H.size (by have:=O.o;omega) N 1);clear hi vD;cases q with
   |zero=>
    have ar:L=[]:=Xb6.1 O.o;have ay:=ag (show kG (ek l) p (k+1)=L++[(N,1)]by rw[HG.o,ar];rfl);clear ar HG;go_wp2;go_quiet (fail)
    obtain⟨g9,c9,w9,h,I,dV⟩:=tq.o nq;rw[<-ay.o]at I;rw[O.o]at I h;have T:=ag I;have bI:=H.trans dV;clear I dV;go_wp2_with (at_builtin;refine kS rfl (.tmp 90) (.tmp 93) 96 rfl rfl rfl rfl h ?_)
    go_roundw
    case rel=>exact⟨k+1,mK.o,congrArg (Value.int .i64) (by have:=LX.o;omega),T,bI⟩
    simp only[intOf];omega
   |succ t=>
    have hz:=O.o;obtain⟨g,e,av, -,a1, -⟩:=f.o.lies (by intro e;rw[e]at hz;simp at hz);subst e;have C:t<L.length:=by omega
    have F:=(sF _).1 (an.o _ (Xa3 C));obtain⟨b',aJ,e,c1,c2⟩:=f.o.rd.at t C;cases e;rw[Nat.zero_add]at c1 c2;have fr:=fun j=>f.o.frozen O.o.symm j
    obtain⟨s1,g1⟩:=f.o.stored O.o.symm t C ((L[t]).2+1);have U:=ag (fun hN=>(qr0 (N:=N) C hz.symm hN).trans HG.o.symm);have V:=ag (fun hN=>(qr1 (N:=N) C hz.symm hN).trans HG.o.symm);have HS:=ag s1;have aD:=ag g1;have Sz:=ag av;have aj:wrap64 ((t:Int)+1-1)=t:=Ve (by omega);clear s1 g1 hz av HG;generalize hp:(L[t]).1=P at *;generalize hq:(L[t]).2=R at *;have a2:wrap64 (P+R)=P+R:=by unfold wrap64;omega
    have aK:IntKind.i64.wrap (P+R)=P+R:=by rw[IntKind.wrap_i64];omega
    have a3:wrap64 (R+1)=R+1:=by unfold wrap64;omega
    have a4:(t:Int)<((t+1:Nat):Int):=by omega
    clear hp hq;by_cases W:P+R=N
    ·have X:=ag (U.o W)
     clear U V tq;go_wp2;go_quiet (fail)
     go_wp2;go_roundw
     case rel=>exact⟨k+1,mK.o,congrArg (Value.int .i64) (by have:=LX.o;omega),ag (by rw[<-X.o];exact HS.o),(below_drewN H _).setCell Sz.o _⟩
     simp only[intOf];omega
    have X:=ag (V.o W);have aM:(P+R==N)=false:=by simpa using W
    clear U V HS aD;go_wp2;go_quiet (fail)
    obtain⟨g9,c9,w9,h,I,dV⟩:=tq.o nq;rw[X.o]at I;rw[O.o]at I h;have T:=ag I;have bI:=H.trans dV;clear I dV;go_wp2_with (at_builtin;refine kS rfl (.tmp 90) (.tmp 93) 96 rfl rfl rfl rfl h ?_)
    go_roundw
    case rel=>exact⟨k+1,mK.o,congrArg (Value.int .i64) (by have:=LX.o;omega),T,bI⟩
    simp only[intOf];omega
 have LW:decide ((p:Int)+(k:Int)<B)=false:=by have:=r.o;simpa using(by omega:¬(p:Int)+(k:Int)<B)
 have T:=ag (show bA wr w.heap.size _ (jN p B l)by
  have e:jN p B l=kG (ek l) p k:=by
   unfold jN;rw[if_pos (by rw[Y.o,D.o]),show(B-(p:Int)).toNat=k by have:=r.o;omega]
  rw[e];exact ho.o)
 go_wp2;go_ret2;exact⟨_,by rw[Y.o,D.o];rfl,T.o,d⟩
def yt (L:List Ex) (W:Int) (i:Nat) (Z:Int) (O:List Ex):Prop:=(Z=W-gJ (L.take i)∧1<=Z∧O=L.take i)∨(Z=0∧fE L W=some O)
theorem yt.last(h:yt L W i Z O)(hi:i<L.length)(d:0<Z)(b:∀x∈L,1<=x.2)(c:Z<=(L[i]).2):yt L W (i+1) 0 (O++[((L[i]).1,Z)]):=by
 rcases h with⟨a,e,rfl⟩|⟨a,_⟩
 ·refine .inr ⟨rfl, ?_⟩
  rw[qq6 (w:=W) hi (by omega) b (by omega),a]
 omega
theorem yt.more(h:yt L W i Z O)(hi:i<L.length)(c:0<Z)(a:(L[i]).2<Z):yt L W (i+1) (Z-(L[i]).2) (O++[((L[i]).1,(L[i]).2)]):=by
 rcases h with⟨b,d,rfl⟩|⟨b,_⟩
 ·refine .inl ⟨?_,by omega, ?_⟩
  ·rw[qw L i hi,ZG];omega
  rw[qw L i hi]
 omega
theorem qacg(A B W:Int)(a:aA)(n c:Nat)(l:List Ex)(w:World)(G:iB w (.slice a n c) l)(hn:n=l.length)(H:∀x∈l,jg x):
  Calls Tryz.prog 122 #[.int .i64 A,.int .i64 B,.slice a n c,.int .i64 W] w fun e w'=>∃v,e=.returned (.tuple #[v,.int .i64 (lS A B l W)])∧bA w' w.heap.size v (kg A B l W)∧ah w w':=by
 have HF:=ag (qacf A B a n c l w G hn H);clear G hn H;go_enter Tryz.func122,Tryz.ntmps122;go_wp2_with fail
 refine HF.o.mono ?_
 rintro e wa⟨v,rfl,p,C⟩;have HO:=ag p;obtain⟨av,cv,rfl⟩:=p.form;clear p HF;by_cases k:kH A B l=0
 ·by_cases I:W<1
  ·have f:=ag (JQ k (.inl I:W<1∨4096<W))
   rw[k];clear k;go_wp2;go_ret2;exact⟨_,by rw[f.o.1];rfl,by rw[f.o.2];exact bA.nil _ _,C⟩
  have ad:decide (W<1)=false:=by simpa using I
  by_cases J:4096<W
  ·have f:=ag (JQ k (.inr J:W<1∨4096<W))
   rw[k];clear k;go_wp2;go_ret2;exact⟨_,by rw[f.o.1];rfl,by rw[f.o.2];exact bA.nil _ _,C⟩
  have ai:decide (4096<W)=false:=by simpa using J
  obtain⟨r1,r2,r3⟩:=PU k;obtain⟨f1,f2,f3,f4⟩:=ZI k;have HR:=ag (fun x U=>by have:=r1.1 x U;omega:∀x∈jN A B l,0<=x.1∧1<=x.2∧x.1+x.2<=4096);have HP:=ag (fun x U=>(HR.o x U).2.1:∀x∈jN A B l,1<=x.2);have K:=ag (fun r V=>qm7 k (by omega) (by omega) V:∀r,fE (jN A B l) W=some r->lS A B l W=0∧kg A B l W=r);have X:=ag (fun V=>qm8 k (by omega) (by omega) V:fE (jN A B l) W=none->lS A B l W=40∧kg A B l W=[]);rw[k];clear k r1 r2 f1 f2 f3 f4;generalize jN A B l=L at *;generalize hm:L.length=m at *;have HM:=ag hm;have s:=C.size;have Y:=ag HO.o.rd;have M:=ag (show(1:Int)<=W by omega);have aa:=ag (show W<=4096 by omega);clear hm;go_wp2;go_loopw [3,12,13] (fun z v i wr=>∃(j:Nat) (Z:Int) (O:List Ex),j<=m∧i=.int .i64 j∧z=.int .i64 Z∧af (bA wr wa.heap.size v O)∧af (yt L W j Z O)∧0<=Z∧Z<=4096∧O.length<=j∧ah wa wr) (fun _ _ i _=>m-(intOf i).toNat)
  case atStart=>exact⟨0,W,[],Xd5 _,rfl,rfl,ag (bA.nil _ _),ag (.inl ⟨by simp[gJ],M.o,by simp⟩),by have:=M.o;omega,aa.o,by simp,aF⟩
  obtain⟨j,Z,O,hj,rfl,rfl,N,t,al,QF,am,d⟩:=hrel;by_cases an:j<m
  ·have xS:(j:Int)<m:=by omega
   have y:j<L.length:=by have:=HM.o;omega
   by_cases P:0<Z
   ·obtain⟨b,ao,e,q0,q1⟩:=(Y.o.a d).at j y
    subst e;have U:=HR.o _ (Xa3 y);have ap:wrap64 ((j:Int)+1)=(j:Int)+1:=wQ (by omega);obtain⟨aq,ar,rfl⟩:=N.o.form;generalize Q:O.length=q at *;have HQ:=ag Q;by_cases ab:Z<=(L[j]).2
    ·have HS:=ag (t.o.last y P HP.o ab)
     obtain⟨g9,c9,w9,g,D,R⟩:=Ma N.o d.size (by omega) (L[j]).1 Z;rw[Q]at g D;have iU:=ag D;have bI:=d.trans R;have aj:(if Z<(L[j]).2 then Z else(L[j]).2)=Z:=by split<;>omega
     have ac:(if(L[j]).2<Z then(L[j]).2 else Z)=Z:=by split<;>omega
     have F:min Z (L[j]).2=Z:=by omega
     have u:(O++[((L[j]).1,Z)]).length<=j+1:=by simp;omega
     clear D R Q;go_wp2_with (at_builtin;refine kS rfl (.tmp 48) (.tmp 56) 96 rfl rfl rfl rfl g ?_)
     go_roundw
     case rel=>exact⟨j+1,0,_,by omega,rfl,by simp,iU,HS,by omega,by omega,u,bI⟩
     simp only[intOf];omega
    have HS:=ag (t.o.more y P (by omega));obtain⟨g9,c9,w9,g,D,R⟩:=Ma N.o d.size (by omega) (L[j]).1 (L[j]).2;rw[Q]at g D;have iU:=ag D;have bI:=d.trans R;have F:min Z (L[j]).2=(L[j]).2:=by omega
    have u:(O++[((L[j]).1,(L[j]).2)]).length<=j+1:=by simp;omega
    clear D R Q;go_wp2_with (at_builtin;refine kS rfl (.tmp 48) (.tmp 56) 96 rfl rfl rfl rfl g ?_)
    go_roundw
    case rel=>exact⟨j+1,_,_,by omega,rfl,rfl,iU,HS,by omega,by omega,u,bI⟩
    simp only[intOf];omega
   have S:decide (0<Z)=false:=by simpa using P
   have T:=ag (show fE L W=some O by
    rcases t.o with⟨_,h,_⟩|⟨_,h⟩
    ·omega
    exact h)
   have f:=ag (K.o _ T.o);go_wp2;go_ret2;exact⟨_,by rw[f.o.1];rfl,by rw[f.o.2];exact N.o.mono s,C.trans (d.mono s)⟩
  have hd:decide ((j:Int)<m)=false:=aC (by omega);by_cases P:0<Z
  ·have T:=ag (show fE L W=none by
    rcases t.o with⟨h1,h,_⟩|⟨h,_⟩
    ·rw[Xa1 (by have:=HM.o;omega)]at h1
     exact qv0 (by omega) HP.o
    omega)
   have f:=ag (X.o T.o);go_wp2;go_ret2;exact⟨_,by rw[f.o.1];rfl,by rw[f.o.2];exact bA.nil _ _,C.trans (d.mono s)⟩
  have S:decide (0<Z)=false:=by simpa using P
  have T:=ag (show fE L W=some O by
   rcases t.o with⟨_,h,_⟩|⟨_,h⟩
   ·omega
   exact h)
  have f:=ag (K.o _ T.o);go_wp2;go_ret2;exact⟨_,by rw[f.o.1];rfl,by rw[f.o.2];exact N.o.mono s,C.trans (d.mono s)⟩
 have f:=ag (qi7 (w:=W) k);generalize hE:kH A B l=E at *;have aw:(E==0)=false:=Xe2 k;go_wp2;go_ret2;exact⟨_,by rw[f.o.1];rfl,by rw[f.o.2];exact bA.nil _ _,C⟩
open Go.RowKit Go.Deep
theorem Tryz.cellsInE:Tryz.prog.cellsOf 3=1:=by kernel_rfl
theorem Tryz.cellsExE:Tryz.prog.cellsOf 237=2:=by kernel_rfl
theorem OA{H:Type}{enc:TypeId×Value->H}{W:World}{base:Nat}{e:Nat->Bool}{held:Bool}{fuel:Nat}{u:Value}{x:DataW H×List MemPlace}
  (h:DataW.trod enc Tryz.prog W base e held fuel 96 [u]=some x):∃l:List Ex,iB W u l∧∀x∈l,jg x:=by
 rcases open_slice Tryz.underlying96 h with⟨a,_⟩|⟨o,len,cap,m,n,D,Q,a,_,hl,G,v,_,q⟩
 ·simp at a
  subst a;exact⟨[],.inl ⟨rfl,.inl rfl⟩,by simp⟩
 simp at a
 subst a;by_cases I:len=0
 ·subst I
  exact⟨[],.inl ⟨rfl,.inr ⟨_,_,rfl⟩⟩,by simp⟩
 have J:len<=m:=by rw[v];split<;>omega
 rw[Tryz.cellsExE]at q;have r:∀i,i<len->∃p:Ex,W.cell? (o.add (i*2))=some (.int .i64 p.1)∧W.cell? ((o.add (i*2)).add 1)=some (.int .i64 p.2)∧jg p:=by
  intro i hi;obtain⟨w,K,L⟩:=q i (by omega);obtain⟨_,s,c⟩:=World.cells?_some K;obtain⟨R,S,k,_,_,E,F⟩:=Go.ChangeShapes.trod_struct2 Tryz.underlying237 L
  match w,s with
  |[c0,c1],_=>
   simp only[Tryz.cellsInE,List.drop_zero,List.drop_succ_cons,List.take_succ_cons,Xc2]at E F;obtain⟨M,e0,_,y⟩:=DataW.trod_int Tryz.underlying3 E;obtain⟨n1,e1,_,z⟩:=DataW.trod_int Tryz.underlying3 F;simp at e0 e1
   subst e0 e1;obtain⟨T,U⟩:=bounds_i64 y;obtain⟨V,X⟩:=bounds_i64 z;have N:=c 0 (by omega);have O:=c 1 (by omega);refine⟨(M,n1), ?_, ?_,by dsimp only[jg];omega⟩
   ·rw[show o.add (i*2)=(o.add (i*2)).add 0 by simp[Addr.add]];simpa using N
   rw[O];simp
 obtain⟨f,A⟩:=choose_lt r;have g:∃b d,o=⟨b,d,none⟩:=by
  obtain⟨b,d,t⟩:=o;have:=World.cell?_spot (A 0 (by omega)).1
  have P:t=none:=by simpa [Addr.add]using this
  subst P;exact⟨b,d,rfl⟩
 obtain⟨b,d,rfl⟩:=g;refine⟨(List.range len).map f,.inr ⟨b,d,cap,by simp,by simpa using hl,G,fun j B=>?_⟩,fun x q=>?_⟩
 ·have C:j<len:=by simpa using B
  have:=A j C
  rw[Addr.add_lit,Addr.add_lit]at this;simpa using⟨this.1,this.2.1⟩
 simp only[List.mem_map,List.mem_range]at q
 obtain⟨j,B,rfl⟩:=q;exact(A j B).2.2
theorem qaci(A B:Int)(l:List Ex):(jN A B l).length<=4096:=by
 by_cases h:kH A B l=0
 ·exact(PU h).2.2
 rw[rX h];simp
theorem qxe:∀(l:List Ex) (w:Int) (r:List Ex),fE l w=some r->r.length<=l.length
 |[],w,r,h=>by cases h
 |x::l,w,r,h=>by
  rw[qq5]at h;split at h
  ·cases h;simp
  rw[Option.map_eq_some_iff]at h
  obtain⟨a,b,rfl⟩:=h;have:=qxe l _ a b
  simp;omega
theorem qsv(A B:Int)(l:List Ex)(w:Int):(kg A B l w).length<=4096:=by
 unfold kg;split
 ·simp
 split
 ·simp
 cases h:fE (jN A B l) w with
 |none=>simp
 |some r=>
  have:=qxe _ _ _ h
  have:=qaci A B l
  simp only[Option.getD_some];omega
end Go.Proofs.YtmeaiocohalphaaGreatDoor
