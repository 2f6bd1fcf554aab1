/-
  What the document's samePut and SameActs do.
-/
import Derived.Test.YtmeaiocohalphaaGreatDoorRmFree
import Derived.Test.YtmeaiocohalphaaGreatDoorMathSl
set_option maxHeartbeats 4000000
set_option maxRecDepth 100000
namespace Go.Proofs.YtmeaiocohalphaaGreatDoor
open Go.RowKit
set_option linter.all false
variable {l:List Ex}{k:Nat}
theorem qafu(b:k<l.length)(c:∀x∈l,eP x=true)(h:mf (l.take k)=true)(g:∀n:Nat,ek (l.take k) n=true->iQ l[k] n=false):mf (l.take (k+1))=true:=by
 rw[qw l k b,PS,h,Bool.true_and,Xc5];intro y d;have a:y∈l:=Xb9 d;have i:=(sF y).1 (c y a);have j:=(sF _).1 (c _ (Xa3 b));rw[Bool.not_eq_true',<-Xd4,qo0 j.2.1 i.2.1];rintro⟨n,m,e⟩;have f:0<=n:=by simp[iQ]at e;omega
 have:=g n.toNat (by rw[Int.toNat_of_nonneg f,ZF];exact⟨y,d,by simpa [iQ]using e⟩)
 rw[Int.toNat_of_nonneg f,m]at this;cases this
theorem Kt(a:k<l.length)(b:∀x∈l,eP x=true){n:Nat}(d:ek (l.take k) n=true)(e:iQ l[k] n=true):mf (l.take (k+1))=false:=by
 rw[qw l k a,PS,Bool.and_eq_false_iff];right
 rw[List.all_eq_false];obtain⟨y,c,f⟩:=(ZF _ _).1 d;have g:=(sF y).1 (b y (Xb9 c));have h:=(sF _).1 (b _ (Xa3 a));refine⟨y,c, ?_⟩;rw[(qo0 h.2.1 g.2.1).2 ⟨n,e,by simpa [iQ]using f⟩];simp
theorem qr4(a:aA)(n c:Nat)(l:List Ex)(w:World)(h:iB w (.slice a n c) l)(D:n=l.length)(q:∀x∈l,jg x):
  Calls Tryz.prog 181 #[.slice a n c] w fun e w'=>e=.returned (.int .i64 (dY l))∧ah w w':=by
 have N:=ag h;have F:=ag D;have O:=ag (qjz a n c l w h D q);clear h D q;go_enter Tryz.func181,Tryz.ntmps181;go_wp2_with fail
 refine O.o.mono ?_
 rintro e G⟨rfl,H⟩;by_cases r:dE l=0
 ·have B:=ag r
  rw[r];have I:=Tryz.zeroMk;have P:=Sw (fun _=>false);have V:n<=4096:=by have:=(wL B.o).1;have:=F.o;omega
  have J:=ag (fun x Q=>(sF x).2 ((wL B.o).2 x Q):∀x∈l,eP x=true);have m:=H.size;clear r;go_wp2;go_loopw [14] (fun i wr=>∃k:Nat,k<=n∧i=.int .i64 k∧af (Mk wr G.heap.size (fun j=>ek (l.take k) j))∧af (mf (l.take k)=true)∧ah w wr) (fun i _=>n-(intOf i).toNat)
  case atStart=>exact⟨0,Xd5 _,rfl,ag ((Mk.new G _).same fun j=>by simp[ek]),ag (by simp[mf]),H.alloc m _⟩
  obtain⟨k,W,rfl,s,t,d⟩:=hrel;have X:=s.o.lt;by_cases R:k<n
  ·have M:(k:Int)<n:=by omega
   have f:k<l.length:=by have:=F.o;omega
   obtain⟨b,S,rfl,Y,Z⟩:=(N.o.a d).at k f;go_wp2_with fail
   refine(qui G.heap.size _ (l[k]) (J.o _ (Xa3 f)) _ (s.o.a (ae))).mono ?_
   rintro e wc⟨C,⟨rfl,u,v⟩|⟨rfl,j, -,y,z⟩⟩
   ·have T:=ag (u.same (g:=fun j=>ek (l.take (k+1)) j) fun j=>by rw[qw l k f,JP])
    have K:=ag (qafu f J.o t.o v);have p:ah w wc:=(d.alloc d.size _).grown C (aG d.size (by simp)) (fun j L=>by cases L;exact m);clear u C v;go_wp2;go_roundw
    case rel=>exact⟨k+1,by omega,rfl,T,K,p⟩
    simp only[intOf];omega
   have A:=ag (qm6 (k:=k+1) f B.o (Kt f J.o y z));have p:ah w wc:=(d.alloc d.size _).grown C (aG d.size (by simp)) (fun j L=>by cases L;exact m);clear C y z;go_wp2;go_ret;exact⟨by rw[A.o];rfl,p⟩
  have hd:decide ((k:Int)<n)=false:=aC (by omega);have A:=ag (ZE B.o (by have:=t.o;rwa [Xa1 (by have:=F.o;omega)]at this));go_wp2;go_ret;exact⟨by rw[A.o];rfl,d⟩
 have A:=ag (ZC r);generalize hE:dE l=E at *;have U:(E==0)=false:=Xe2 r;go_wp2;go_ret;exact⟨by rw[A.o];rfl,H⟩
def Hf (l:List Ex):Int:=if dY l=0 then gJ l else 0
def wS (l:List Ex):List Int:=if dY l=0 then iy l else[]
theorem qafv(a:dE l=0):0<=gJ (l.take k)∧gJ (l.take k)<=16777216:=by
 have b:=wL a;have:=qt3 (l:=l.take k) fun x c=>b.2 x (Xb9 c)
 rw[Xa4]at this;omega
theorem qnx{m:Nat}(a:dE l=0)(b:k<l.length)(f:m<=(l[k]).2.toNat):(iy (l.take k)++gZ l[k] m).length<=16777216:=by
 have c:=wL a;have g:=qt4 (l:=l.take k) fun x d=>(c.2 x (Xb9 d)).2.1
 have e:=qafv (k:=k+1) a;rw[qw l k b,ZG]at e;have:=c.2 _ (Xa3 b)
 rw[Xa0,qvz];omega
theorem qyv(a:aA)(n c:Nat)(l:List Ex)(w:World)(p:iB w (.slice a n c) l)(B:n=l.length)(t:∀x∈l,jg x):
  Calls Tryz.prog 102 #[.slice a n c] w fun e w'=>∃v,e=.returned (.tuple #[v,.int .i64 (dY l)])∧lZ w' w.heap.size v (wS l)∧ah w w':=by
 have U:=ag p;have C:=ag B;have V:=ag (qr4 a n c l w p B t);clear p B t;go_enter Tryz.func102,Tryz.ntmps102;go_wp2_with fail
 refine V.o.mono ?_
 rintro e wa⟨rfl,J⟩;by_cases q:dY l=0
 ·have D:=ag (PT q).1
  have F:=ag (show wS l=iy l by unfold wS;rw[if_pos q]);rw[q];have W:=ag q;have qN:n<=4096:=by have:=(wL D.o).1;have:=C.o;omega
  clear q;go_wp2;go_loopw [5,16] (fun s i wr=>∃k:Nat,k<=n∧i=.int .i64 k∧af (lZ wr w.heap.size s (iy (l.take k)))∧ah w wr) (fun _ i _=>n-(intOf i).toNat)
  case atStart=>exact⟨0,Xd5 _,rfl,ag (lZ.nil _ _),J⟩
  obtain⟨k,hk,rfl,K,d⟩:=hrel;by_cases Y:k<n
  ·have L:(k:Int)<n:=by omega
   have f:k<l.length:=by have:=C.o;omega
   obtain⟨b,Z,rfl,q0,q1⟩:=(U.o.a d).at k f;have A:=ag (show iy (l.take (k+1))=iy (l.take k)++gZ l[k] (l[k]).2.toNat by rw[qw l k f,qjt]);have hx:=(wL D.o).2 _ (Xa3 f);have u:=d.alloc d.size (.cells #[.int .i64 (l[k]).1,.int .i64 (l[k]).2] 237);have y:=ag (K.o.a (aF.alloc aL (.cells #[.int .i64 (l[k]).1,.int .i64 (l[k]).2] 237)));have M:=ag (fun m hm=>qnx (m:=m) D.o f hm);have c0:(wr.alloc (.cells #[.int .i64 (l[k]).1,.int .i64 (l[k]).2] 237)).heap[wr.heap.size]? =some (.cells #[.int .i64 (l[k]).1,.int .i64 (l[k]).2] 237 (0,0)):=heap_alloc_new _ _
   generalize hX:l[k]=X at *;obtain⟨P,R⟩:=X;simp only at hx u c0 A q0 q1 y M
   obtain⟨r,rfl⟩:∃r:Nat,R=r:=⟨R.toNat,by omega⟩;clear hX;have C0:=ag c0;clear c0;go_wp2;generalize wr.heap.size=XB at *
   go_loopw [5,22] (fun s i wr=>∃j:Nat,j<=r∧i=.int .i64 j∧af (lZ wr w.heap.size s (iy (l.take k)++gZ (P,(r:Int)) j))∧ah w wr∧af (wr.heap[XB]? =some (.cells #[.int .i64 P,.int .i64 r] 237 (0,0)))) (fun _ i _=>r-(intOf i).toNat)
   case atStart=>exact⟨0,Xd5 _,rfl,ag (by simpa [gZ]using y.o),u,C0⟩
   obtain⟨j,hj,rfl,g,G,h⟩:=hrel;by_cases aa:j<r
   ·have N:(j:Int)<r:=by omega
    have O:=M.o j (by omega);obtain⟨g9,c9,w9,z,Q,S,T⟩:=Su g.o G.size (by omega) (P+j);have HX:=ag ((T.block _ (Xd6.1 h.o).1 (g.o.apart h.o)).trans h.o);have H:wr.cell? ⟨XB,0,none⟩=some (.int .i64 P):=by rw[cell_of_row wr _ 0 _ _ (0,0) h.o];rfl
    have I:=ag (show lZ w9 w.heap.size (.slice (some ⟨g9,0,none⟩) ((iy (l.take k)++gZ (P,(r:Int)) j).length+1) c9) (iy (l.take k)++gZ (P,(r:Int)) (j+1))by
     rw[qq4,<-Xa8];exact Q)
    have bI:=G.trans S;have ab:wrap64 (P+(j:Int))=P+(j:Int):=by unfold wrap64;omega
    clear Q S T;go_wp2_with (at_builtin;refine kS rfl (.tmp 25) (.tmp 30) 93 rfl rfl rfl rfl z ?_)
    go_roundw
    case rel=>exact⟨j+1,by omega,rfl,by rw[<-Xa0];exact I,bI,HX⟩
    simp only[intOf];omega
   have hd:decide ((j:Int)<r)=false:=aC (by omega);have I:=ag (show lZ wr w.heap.size _ (iy (l.take (k+1)))by
    rw[A.o,Int.toNat_natCast];have e:j=r:=by omega
    rw[<-e];rw[<-e]at g;exact g.o)
   go_wp2;go_roundw
   case rel=>exact⟨k+1,by omega,rfl,I,G⟩
   simp only[intOf];omega
  have hd:decide ((k:Int)<n)=false:=aC (by omega);have A:=ag (show iy (l.take k)=wS l by rw[F.o,Xa1 (by have:=C.o;omega)]);go_wp2;go_ret2;exact⟨_,by rw[W.o];rfl,by rw[<-A.o];exact K.o,d⟩
 have F:=ag (show wS l=[]by unfold wS;rw[if_neg q]);generalize hE:dY l=E at *;have ac:(E==0)=false:=Xe2 q;go_wp2;go_ret2;exact⟨_,by rw[hE];rfl,by rw[F.o];exact lZ.nil _ _,J⟩
abbrev aR:=Dk×Nat×List Fl×List Fl
def fz:aR:=(dz,0,[],[])
def iX (d:Dk) (gen size:Nat):az:=(d.1.drop (128*(2+gen%2*16))).take size
def bP (f:aR):Prop:=(jl f.1).2.2=0∧(jl f.1).1=f.2.1∧(∀p∈f.1.2.1,34<=p.1)∧mg (iX f.1 f.2.1 (jl f.1).2.1) (bD f.1)=0∧uE (iX f.1 f.2.1 (jl f.1).2.1) (bD f.1)=f.2.2.2∧bf f.2.2.1 (bD f.1)=0
instance (f:aR):Decidable (bP f):=inferInstanceAs (Decidable (_∧_∧_∧_∧_∧_))
def eF (f:aR):Int:=if bP f then 0 else 8
def fJ (f:aR):List Ex:=nE f.2.2.1++nE f.2.2.2
def fP (f:aR):Int:=(Bo f.1).1
def qA (f:aR) (s:az) (n:Int):Int:=
 if iq f.2.2.1 s=0 then 51 else if iq f.2.2.1 s≠6 then iq f.2.2.1 s
 else if lS 34 (fP f) (fJ f) n≠0 then lS 34 (fP f) (fJ f) n
 else iG f.2.2.1 s (kg 34 (fP f) (fJ f) n) (fP f)
def kT (f:aR) (s:az) (n:Int):List Fl:=if qA f s n=0 then lW f.2.2.1 s (kg 34 (fP f) (fJ f) n) (fP f)else[]
def rH (f:aR) (l:List Fl) (e:Int):aR×Int:=if eF f≠0 then(fz,eF f)else if e≠0 then(fz,e)else((f.1,f.2.1,l,f.2.2.2),0)
def l6 (f:aR) (s:az) (n:Int):aR×Int:=rH f (kT f s n) (qA f s n)
def wT (f:aR) (s t:az):aR×Int:=rH f (qy f.2.2.1 s t) (kr f.2.2.1 s t)
def iL (f:aR) (s:az):Int:=if iq f.2.2.1 s≠0 then iq f.2.2.1 s else dY (fO f.2.2.1 s)
def aZ (f:aR) (s:az):List Int:=if iq f.2.2.1 s≠0 then[]else wS (fO f.2.2.1 s)
def jD (f:aR) (s:az) (i:Int):Int:=if iL f s≠0 then iL f s else if i<0∨((aZ f s).length:Int)<=i then 2 else 0
def kU (f:aR) (s:az) (i:Int):Int:=if jD f s i≠0 then 0 else(aZ f s).getD i.toNat 0
def dB (f:aR) (s:az):Int:=if eF f≠0 then eF f else iL f s
def uT (f:aR) (s:az):Int:=if eF f≠0 then 0 else(aZ f s).length
def mW (f:aR) (s:az) (i:Int):Int:=if eF f≠0 then eF f else if jD f s i≠0 then jD f s i else(uH f.1 (kU f s i)).2
def mq (f:aR) (s:az) (i:Int):az:=if eF f≠0 then[]else if jD f s i≠0 then[]else(uH f.1 (kU f s i)).1
def Kz (f:aR):Int:=if eF f≠0 then eF f else if kH 34 (fP f) (fJ f)≠0 then kH 34 (fP f) (fJ f)else dY (jN 34 (fP f) (fJ f))
def KA (f:aR):Int:=if eF f≠0 then 0 else if kH 34 (fP f) (fJ f)≠0 then 0 else Hf (jN 34 (fP f) (fJ f))
/-! ### on the way -/
abbrev Wy:=aR×Int×az
abbrev Stp:=Wy->Wy×Int
def lN (s:Stp) (x:Wy):Wy:=if x.2.1=0 then((s x).1.1,(s x).2,(s x).1.2.2)else x
def nH (f:aR):Wy:=(f,eF f,[])
def mX (x:Wy):aR×Int:=if x.2.1≠0 then(fz,x.2.1)else(x.1,0)
def Fu (x:Wy) (d:Dk):Wy:=((d,x.1.2),x.2)
def KC:Stp:=fun x=>(Fu x (iR x.1.1 [] 0).1,(iR x.1.1 [] 0).2)
def SB (n:Int) (b:az):Stp:=fun x=>(Fu x (iR x.1.1 [(false,n,b)] 1).1,(iR x.1.1 [(false,n,b)] 1).2)
def jk (s:az) (i:Int) (b:az):Stp:=fun x=>if jD x.1 s i≠0 then(x,jD x.1 s i)else SB (kU x.1 s i) b x
def qO (l:List Fl) (e:Int):Stp:=fun x=>(((x.1.1,x.1.2.1,l,x.1.2.2.2),x.2),e)
def Ap (l:az):az:=l.take 128++List.replicate (128-l.length) 0
def l7 (f:aR) (s:az) (i:Int) (b:az):aR×Int:=mX (lN (jk s i b) (nH f))
def Ql (f:aR) (l:List Fl) (e:Int):aR×Int:=mX (lN KC (lN (qO l e) (nH f)))
theorem Aq(f:aR):(bP f∧eF f=0)∨(¬bP f∧eF f=8):=by
 unfold eF;by_cases h:bP f
 ·exact .inl ⟨h,if_pos h⟩
 exact .inr ⟨h,if_neg h⟩
theorem iY{f:aR}(h:eF f=0):bP f:=by rcases Aq f with a|a;exact a.1;rw[a.2]at h;cases h
theorem wU{f:aR}(h:bP f):eF f=0:=by unfold eF;exact if_pos h
theorem oN{f:aR}(h:bP f):okD f.1=true∧34<bD f.1∧f.2.1≠0∧jl f.1=(f.2.1,(jl f.1).2.1,0):=by
 obtain⟨d,g,_⟩:=h;have e:jl f.1=(f.2.1,(jl f.1).2.1,0):=by rw[<-g,<-d]
 obtain⟨a,b,c,_⟩:=qjf e;exact⟨a,b,c,e⟩
theorem SC{d:Dk}(h:okD d=true):jQ d=0:=by unfold jQ;rw[if_pos h]
theorem SE{f:aR}(h:okD f.1=true):fP f=bD f.1:=by unfold fP Bo;rw[SC h];rfl
theorem qr6{f:aR}(h:bP f):(jl f.1).2.1<=2048∧f.2.1<4294967296:=by
 obtain⟨e,g,i,a⟩:=oN h;obtain⟨_,_,b,c⟩:=qjf a;have:=qnu c b
 unfold mi at this;split at this
 ·have e1:=congrArg Prod.fst this
  have d:=congrArg Prod.snd this;simp only at e1 d
  have:=rz (blk f.1.1 (f.2.1%2))
  omega
 have e1:=congrArg Prod.fst this;simp only at e1
 omega
theorem qabm(f:aR)(l:List Fl)(e:Int):Ql f l e=rH f l e:=by
 unfold Ql rH nH;rcases Aq f with⟨h,a⟩|⟨h,a⟩
 ·have c:=SC (oN h).1
  rw[a];unfold lN qO KC mX Fu iR;by_cases b:e=0
  ·subst b
   simp[c,xG,qJ]
  simp[b]
 rw[a]
 simp[lN,mX]
theorem qnz{P:Program}{f:FuncId}{args:Array Value}{w:World}{b r:Bool}(h:b=r)(a:Calls P f args w fun e w'=>e=.returned (.bool b)∧ah w w'):Calls P f args w fun e w'=>e=.returned (.bool r)∧ah w w':=h▸a
theorem qj0(p q:Pu)(x y:aA)(j d1 l d2:Nat)(w:World)(h:Rd w (.slice x j d1) p.2)(k:Rd w (.slice y l d2) q.2):
  Calls Tryz.prog 209 #[.agg #[.int .i64 p.1,.slice x j d1],.agg #[.int .i64 q.1,.slice y l d2]] w fun e w'=>e=.returned (.bool (decide (p=q)))∧ah w w':=by
 obtain⟨b,d⟩:=p;obtain⟨f,g⟩:=q;have c:∀o a,ah w ((w.alloc o).alloc a):=fun o a=>(ae).alloc (by simp) _
 have m:=fun o a=>sD (P:=Tryz.prog) 23 5 9 Tryz.underlying23 Tryz.underlying5 Tryz.underlying9 (h.a (c o a))
 have n:=fun o a=>sD (P:=Tryz.prog) 23 5 9 Tryz.underlying23 Tryz.underlying5 Tryz.underlying9 (k.a (c o a))
 clear h k;by_cases e:b=f
 ·subst e
  have i:=ag (show decide (((b,d):Pu)=(b,g))=((bs d).toList==(bs g).toList)by rw[Qf];simp);go_enter Tryz.func209,Tryz.ntmps209;go_wp2;go_ret;exact⟨by first|(rw[i.o];rfl)|(simp only[Qf];simp),c _ _⟩
 have r:(b==f)=false:=Xe2 e;have i:=ag (show decide (((b,d):Pu)=(f,g))=false by simp[e]);go_enter Tryz.func209,Tryz.ntmps209;go_wp2;go_ret;exact⟨by first|rfl|(rw[i.o];rfl),c _ _⟩
theorem qr7(l m:List Ac)(a b:aA)(n1 c1 n2 c2:Nat)(w:World)(h:pJ w (.slice a n1 c1) l)(k:pJ w (.slice b n2 c2) m)(e1:n1=l.length)(e2:n2=m.length):
  Calls Tryz.prog 139 #[.slice a n1 c1,.slice b n2 c2] w fun e w'=>e=.returned (.bool (decide (l=m)))∧ah w w':=by
 have H:=ag h;have K:=ag k;have E1:=ag e1;have E2:=ag e2;have ac:n1<=maxLen:=e1▸h.len_le;unfold maxLen at ac;clear h k e1 e2;by_cases hn:n1=n2
 ·subst hn
  go_enter Tryz.func139,Tryz.ntmps139;go_wp2;go_loopw [5] (fun i wr=>∃k:Nat,k<=n1∧i=.int .i64 k∧af (l.take k=m.take k)∧ah w wr) (fun i _=>n1-(intOf i).toNat)
  case atStart=>exact⟨0,Xd5 _,rfl,rfl,aF⟩
  obtain⟨k,hk,rfl,P,v⟩:=hrel;by_cases ai:k<n1
  ·have Q:(k:Int)<n1:=by omega
   have I:k<l.length:=by have:=E1.o;omega
   have uU:k<m.length:=by have:=E2.o;omega
   obtain⟨D,E,rfl,R,S,x,m1,d1,q1,q2,q3⟩:=(H.o.a v).at k I;obtain⟨F,G,rfl,U,B,y,m2,d2,r1,r2,r3⟩:=(K.o.a v).at k uU;clear q2 q3 r2 r3;obtain⟨_,_,e9,_,_,V,W,X,p1,p2,p3⟩:=H.o.at k I;clear p3;cases e9;obtain⟨_,_,e9,_,_,Y,Z,f9,aa,ab,ad⟩:=K.o.at k uU;clear ad;cases e9;have ex:V=x∧W=m1∧X=d1:=by
    have:=(aV _ _ _ _ p1 v).symm.trans q1
    injection this with this;injection this with t1 t2 t3;exact⟨t1,t2,t3⟩
   have ey:Y=y∧Z=m2∧f9=d2:=by
    have:=(aV _ _ _ _ aa v).symm.trans r1
    injection this with this;injection this with t1 t2 t3;exact⟨t1,t2,t3⟩
   obtain⟨rfl,rfl,rfl⟩:=ex;obtain⟨rfl,rfl,rfl⟩:=ey;have HQ:=ag p2;have HR:=ag ab;obtain⟨⟨s,N,L1⟩,hp⟩:∃p:Ac,l[k]=p:=⟨_,rfl⟩;obtain⟨⟨T,N2,L2⟩,J⟩:∃p:Ac,m[k]=p:=⟨_,rfl⟩;have HP:=ag hp;have KE:=ag J;rw[hp]at R S HQ;rw[J]at U B HR;dsimp only at R S U B HQ HR;clear hp J p1 p2 aa ab;obtain⟨r,er⟩:∃r:Bool,decide (((N,L1):Pu)=(N2,L2))=r:=⟨_,rfl⟩;have L:=ag er;clear er
   by_cases M:s=T
   ·subst M
    have O:aN (fun f=>(f.cell? ⟨D,E+k*3,none⟩=some (.bool s)∧f.cell? ⟨D,E+k*3+1,none⟩=some (.int .i64 N)∧f.cell? ⟨D,E+k*3+2,none⟩=some (.slice V W X))∧(f.cell? ⟨F,G+k*3,none⟩=some (.bool s)∧f.cell? ⟨F,G+k*3+1,none⟩=some (.int .i64 N2)∧f.cell? ⟨F,G+k*3+2,none⟩=some (.slice Y Z f9))∧ah w f):=((aV _ _).and ((aV _ _).and (aV _ _))).and (((aV _ _).and ((aV _ _).and (aV _ _))).and (pQ _));go_wp2;refine iH O (by kernel_rfl) ⟨⟨R,S,q1⟩,⟨U,B,r1⟩,v⟩ ?_
    intro d;refine rT 0 ?q1v0 rfl ?q1y0 d ?q1r0
    case q1y0=>(rintro f⟨⟨g,j,n⟩,⟨q,t,u⟩,c⟩;go_simp<;>rfl)
    try simp only[aB]
    refine rT 1 ?q1v1 rfl ?q1y1 d ?q1r1
    case q1y1=>(rintro f⟨⟨g,j,n⟩,⟨q,t,u⟩,c⟩;go_simp<;>rfl)
    try simp only[aB]
    refine rT 2 ?q1v2 rfl ?q1y2 d ?q1r2
    case q1y2=>(rintro f⟨⟨g,j,n⟩,⟨q,t,u⟩,c⟩;go_simp<;>rfl)
    try simp only[aB]
    refine rT 3 ?q1v3 rfl ?q1y3 d ?q1r3
    case q1y3=>(rintro f⟨⟨g,j,n⟩,⟨q,t,u⟩,c⟩;go_simp<;>rfl)
    try simp only[aB]
    refine rT 4 ?q1v4 rfl ?q1y4 d ?q1r4
    case q1y4=>(rintro f⟨⟨g,j,n⟩,⟨q,t,u⟩,c⟩;go_simp<;>rfl)
    try simp only[aB]
    refine rT 5 ?q1v5 rfl ?q1y5 d ?q1r5
    case q1y5=>(rintro f⟨⟨g,j,n⟩,⟨q,t,u⟩,c⟩;go_simp<;>rfl)
    try simp only[aB]
    refine rT 6 ?q1v6 rfl ?q1y6 d ?q1r6
    case q1y6=>(rintro f⟨⟨g,j,n⟩,⟨q,t,u⟩,c⟩;go_simp<;>rfl)
    try simp only[aB]
    refine rT 7 ?q1v7 rfl ?q1y7 d ?q1r7
    case q1y7=>(rintro f⟨⟨g,j,n⟩,⟨q,t,u⟩,c⟩;go_simp<;>rfl)
    try simp only[aB]
    refine rT 8 ?q1v8 rfl ?q1y8 d ?q1r8
    case q1y8=>(rintro f⟨⟨g,j,n⟩,⟨q,t,u⟩,c⟩;go_simp<;>rfl)
    try simp only[aB]
    refine rT 9 ?q1v9 rfl ?q1y9 d ?q1r9
    case q1y9=>(rintro f⟨⟨g,j,n⟩,⟨q,t,u⟩,c⟩;go_simp<;>rfl)
    try simp only[aB]
    refine rT 10 ?SF rfl ?Ca d ?SG
    case Ca=>(rintro f⟨⟨g,j,n⟩,⟨q,t,u⟩,c⟩;go_simp<;>rfl)
    try simp only[aB]
    refine rT 11 ?q1v11 rfl ?SH d ?q1r11
    case SH=>(rintro f⟨⟨g,j,n⟩,⟨q,t,u⟩,c⟩;go_simp<;>rfl)
    try simp only[aB]
    refine rT 12 ?q1v12 rfl ?SI d ?q1r12
    case SI=>(rintro f⟨⟨g,j,n⟩,⟨q,t,u⟩,c⟩;go_simp<;>rfl)
    try simp only[aB]
    refine rT 13 ?q1v13 rfl ?SK d ?q1r13
    case SK=>(rintro f⟨⟨g,j,n⟩,⟨q,t,u⟩,c⟩;go_simp<;>rfl)
    try simp only[aB]
    refine rT 14 ?q1v14 rfl ?SL d ?q1r14
    case SL=>(rintro f⟨⟨g,j,n⟩,⟨q,t,u⟩,c⟩;go_simp<;>rfl)
    try simp only[aB]
    refine rT 15 ?q1v15 rfl ?SN d ?q1r15
    case SN=>(rintro f⟨⟨g,j,n⟩,⟨q,t,u⟩,c⟩;go_simp<;>rfl)
    try simp only[aB]
    refine rT 16 ?q1v16 rfl ?SQ d ?q1r16
    case SQ=>(rintro f⟨⟨g,j,n⟩,⟨q,t,u⟩,c⟩;go_simp<;>rfl)
    try simp only[aB]
    refine rT 17 ?q1v17 rfl ?SS d ?q1r17
    case SS=>(rintro f⟨⟨g,j,n⟩,⟨q,t,u⟩,c⟩;go_simp<;>rfl)
    try simp only[aB]
    refine rT 18 ?q1v18 rfl ?SV d ?q1r18
    case SV=>(rintro f⟨⟨g,j,n⟩,⟨q,t,u⟩,c⟩;go_simp<;>rfl)
    try simp only[aB]
    refine rT 19 ?q1v19 rfl ?SX d ?q1r19
    case SX=>(rintro f⟨⟨g,j,n⟩,⟨q,t,u⟩,c⟩;go_simp<;>rfl)
    try simp only[aB]
    refine rT 20 ?q1v20 rfl ?SY d ?q1r20
    case SY=>(rintro f⟨⟨g,j,n⟩,⟨q,t,u⟩,c⟩;go_simp<;>rfl)
    try simp only[aB]
    refine rT 21 ?q1v21 rfl ?S9 d ?q1r21
    case S9=>(rintro f⟨⟨g,j,n⟩,⟨q,t,u⟩,c⟩;go_simp<;>rfl)
    try simp only[aB]
    refine rV O 22 (.bool r) rfl d (qnz L.o (qj0 (N,L1) (N2,L2) V Y W X Z f9 _ (HQ.o.a (d.2.2.mono aL)) (HR.o.a (d.2.2.mono aL)))) ?_
    clear d;intro aj d;try simp only[aB]
    refine rT 23 ?q1v23 rfl ?Ta d ?q1r23
    case Ta=>(rintro f⟨⟨g,j,n⟩,⟨q,t,u⟩,c⟩;go_simp<;>rfl)
    try simp only[aB]
    refine rT 24 ?q1v24 rfl ?Tc d ?q1r24
    case Tc=>(rintro f⟨⟨g,j,n⟩,⟨q,t,u⟩,c⟩;go_simp<;>rfl)
    try simp only[aB]
    refine rD ?_
    obtain⟨_,_,A⟩:=d;cases r
    ·have C:=ag (show decide (l=m)=false by
      simp only[Xd9];intro e;have z:l[k]=m[k]:=by simp only[e]
      rw[HP.o,KE.o]at z;injection z with _ z;have:=L.o
      rw[Xd8 z]at this;cases this)
     go_wp2;go_ret;exact⟨by first|rfl|(rw[C.o];rfl),A⟩
    have C:=ag (show l[k]=m[k]by
     have h:=of_decide_eq_true L.o;rw[HP.o,KE.o];injection h with h1 h2;rw[h1,h2])
    go_wp2;go_roundw
    case rel=>exact⟨k+1,by omega,by go_num,by show _=_;rw[Xa2 I,Xa2 uU,P.o,C.o],A⟩
    simp[intOf]<;>omega
   cases s<;>cases T
   ·exact absurd rfl M
   ·have C:=ag (show decide (l=m)=false by
     simp only[Xd9];intro e;have z:l[k]=m[k]:=by simp only[e]
     rw[HP.o,KE.o]at z;injection z with z _;cases z)
    have O:aN (fun f=>(f.cell? ⟨D,E+k*3,none⟩=some (.bool false)∧f.cell? ⟨D,E+k*3+1,none⟩=some (.int .i64 N)∧f.cell? ⟨D,E+k*3+2,none⟩=some (.slice V W X))∧(f.cell? ⟨F,G+k*3,none⟩=some (.bool true)∧f.cell? ⟨F,G+k*3+1,none⟩=some (.int .i64 N2)∧f.cell? ⟨F,G+k*3+2,none⟩=some (.slice Y Z f9))∧ah w f):=((aV _ _).and ((aV _ _).and (aV _ _))).and (((aV _ _).and ((aV _ _).and (aV _ _))).and (pQ _));go_wp2;refine iH O (by kernel_rfl) ⟨⟨R,S,q1⟩,⟨U,B,r1⟩,v⟩ ?_
    intro d;refine rT 0 ?q2v0 rfl ?q2y0 d ?q2r0
    case q2y0=>(rintro f⟨⟨g,j,n⟩,⟨q,t,u⟩,c⟩;go_simp<;>rfl)
    try simp only[aB]
    refine rT 1 ?q2v1 rfl ?q2y1 d ?q2r1
    case q2y1=>(rintro f⟨⟨g,j,n⟩,⟨q,t,u⟩,c⟩;go_simp<;>rfl)
    try simp only[aB]
    refine rT 2 ?q2v2 rfl ?q2y2 d ?q2r2
    case q2y2=>(rintro f⟨⟨g,j,n⟩,⟨q,t,u⟩,c⟩;go_simp<;>rfl)
    try simp only[aB]
    refine rT 3 ?q2v3 rfl ?q2y3 d ?q2r3
    case q2y3=>(rintro f⟨⟨g,j,n⟩,⟨q,t,u⟩,c⟩;go_simp<;>rfl)
    try simp only[aB]
    refine rT 4 ?q2v4 rfl ?q2y4 d ?q2r4
    case q2y4=>(rintro f⟨⟨g,j,n⟩,⟨q,t,u⟩,c⟩;go_simp<;>rfl)
    try simp only[aB]
    refine rT 5 ?q2v5 rfl ?q2y5 d ?q2r5
    case q2y5=>(rintro f⟨⟨g,j,n⟩,⟨q,t,u⟩,c⟩;go_simp<;>rfl)
    try simp only[aB]
    refine rT 6 ?q2v6 rfl ?KF d ?q2r6
    case KF=>(rintro f⟨⟨g,j,n⟩,⟨q,t,u⟩,c⟩;go_simp<;>rfl)
    try simp only[aB]
    refine rT 7 ?q2v7 rfl ?q2y7 d ?q2r7
    case q2y7=>(rintro f⟨⟨g,j,n⟩,⟨q,t,u⟩,c⟩;go_simp<;>rfl)
    try simp only[aB]
    refine rT 8 ?q2v8 rfl ?q2y8 d ?q2r8
    case q2y8=>(rintro f⟨⟨g,j,n⟩,⟨q,t,u⟩,c⟩;go_simp<;>rfl)
    try simp only[aB]
    refine rT 9 ?q2v9 rfl ?q2y9 d ?q2r9
    case q2y9=>(rintro f⟨⟨g,j,n⟩,⟨q,t,u⟩,c⟩;go_simp<;>rfl)
    try simp only[aB]
    refine rT 10 ?q2v10 rfl ?Td d ?q2r10
    case Td=>(rintro f⟨⟨g,j,n⟩,⟨q,t,u⟩,c⟩;go_simp<;>rfl)
    try simp only[aB]
    refine rT 11 ?q2v11 rfl ?Te d ?q2r11
    case Te=>(rintro f⟨⟨g,j,n⟩,⟨q,t,u⟩,c⟩;go_simp<;>rfl)
    try simp only[aB]
    refine rS 12 rfl d ?_
    try simp only[aB]
    refine rS 13 rfl d ?_
    try simp only[aB]
    refine rS 14 rfl d ?_
    try simp only[aB]
    refine rS 15 rfl d ?_
    try simp only[aB]
    refine rS 16 rfl d ?_
    try simp only[aB]
    refine rS 17 rfl d ?_
    try simp only[aB]
    refine rS 18 rfl d ?_
    try simp only[aB]
    refine rS 19 rfl d ?_
    try simp only[aB]
    refine rS 20 rfl d ?_
    try simp only[aB]
    refine rS 21 rfl d ?_
    try simp only[aB]
    refine rS 22 rfl d ?_
    try simp only[aB]
    refine rS 23 rfl d ?_
    try simp only[aB]
    refine rT 24 ?q2v24 rfl ?Tf d ?q2r24
    case Tf=>(rintro f⟨⟨g,j,n⟩,⟨q,t,u⟩,c⟩;go_simp<;>rfl)
    try simp only[aB]
    refine rD ?_
    obtain⟨_,_,A⟩:=d;go_wp2;go_ret;exact⟨by first|rfl|(rw[C.o];rfl),A⟩
   ·have C:=ag (show decide (l=m)=false by
     simp only[Xd9];intro e;have z:l[k]=m[k]:=by simp only[e]
     rw[HP.o,KE.o]at z;injection z with z _;cases z)
    have O:aN (fun f=>(f.cell? ⟨D,E+k*3,none⟩=some (.bool true)∧f.cell? ⟨D,E+k*3+1,none⟩=some (.int .i64 N)∧f.cell? ⟨D,E+k*3+2,none⟩=some (.slice V W X))∧(f.cell? ⟨F,G+k*3,none⟩=some (.bool false)∧f.cell? ⟨F,G+k*3+1,none⟩=some (.int .i64 N2)∧f.cell? ⟨F,G+k*3+2,none⟩=some (.slice Y Z f9))∧ah w f):=((aV _ _).and ((aV _ _).and (aV _ _))).and (((aV _ _).and ((aV _ _).and (aV _ _))).and (pQ _));go_wp2;refine iH O (by kernel_rfl) ⟨⟨R,S,q1⟩,⟨U,B,r1⟩,v⟩ ?_
    intro d;refine rT 0 ?q3v0 rfl ?q3y0 d ?q3r0
    case q3y0=>(rintro f⟨⟨g,j,n⟩,⟨q,t,u⟩,c⟩;go_simp<;>rfl)
    try simp only[aB]
    refine rT 1 ?q3v1 rfl ?q3y1 d ?q3r1
    case q3y1=>(rintro f⟨⟨g,j,n⟩,⟨q,t,u⟩,c⟩;go_simp<;>rfl)
    try simp only[aB]
    refine rT 2 ?q3v2 rfl ?q3y2 d ?q3r2
    case q3y2=>(rintro f⟨⟨g,j,n⟩,⟨q,t,u⟩,c⟩;go_simp<;>rfl)
    try simp only[aB]
    refine rT 3 ?q3v3 rfl ?q3y3 d ?q3r3
    case q3y3=>(rintro f⟨⟨g,j,n⟩,⟨q,t,u⟩,c⟩;go_simp<;>rfl)
    try simp only[aB]
    refine rT 4 ?q3v4 rfl ?q3y4 d ?q3r4
    case q3y4=>(rintro f⟨⟨g,j,n⟩,⟨q,t,u⟩,c⟩;go_simp<;>rfl)
    try simp only[aB]
    refine rT 5 ?q3v5 rfl ?q3y5 d ?q3r5
    case q3y5=>(rintro f⟨⟨g,j,n⟩,⟨q,t,u⟩,c⟩;go_simp<;>rfl)
    try simp only[aB]
    refine rT 6 ?q3v6 rfl ?q3y6 d ?q3r6
    case q3y6=>(rintro f⟨⟨g,j,n⟩,⟨q,t,u⟩,c⟩;go_simp<;>rfl)
    try simp only[aB]
    refine rT 7 ?q3v7 rfl ?q3y7 d ?q3r7
    case q3y7=>(rintro f⟨⟨g,j,n⟩,⟨q,t,u⟩,c⟩;go_simp<;>rfl)
    try simp only[aB]
    refine rT 8 ?q3v8 rfl ?q3y8 d ?q3r8
    case q3y8=>(rintro f⟨⟨g,j,n⟩,⟨q,t,u⟩,c⟩;go_simp<;>rfl)
    try simp only[aB]
    refine rT 9 ?q3v9 rfl ?q3y9 d ?q3r9
    case q3y9=>(rintro f⟨⟨g,j,n⟩,⟨q,t,u⟩,c⟩;go_simp<;>rfl)
    try simp only[aB]
    refine rT 10 ?Tg rfl ?Cb d ?Ti
    case Cb=>(rintro f⟨⟨g,j,n⟩,⟨q,t,u⟩,c⟩;go_simp<;>rfl)
    try simp only[aB]
    refine rT 11 ?q3v11 rfl ?Tj d ?q3r11
    case Tj=>(rintro f⟨⟨g,j,n⟩,⟨q,t,u⟩,c⟩;go_simp<;>rfl)
    try simp only[aB]
    refine rS 12 rfl d ?_
    try simp only[aB]
    refine rS 13 rfl d ?_
    try simp only[aB]
    refine rS 14 rfl d ?_
    try simp only[aB]
    refine rS 15 rfl d ?_
    try simp only[aB]
    refine rS 16 rfl d ?_
    try simp only[aB]
    refine rS 17 rfl d ?_
    try simp only[aB]
    refine rS 18 rfl d ?_
    try simp only[aB]
    refine rS 19 rfl d ?_
    try simp only[aB]
    refine rS 20 rfl d ?_
    try simp only[aB]
    refine rS 21 rfl d ?_
    try simp only[aB]
    refine rS 22 rfl d ?_
    try simp only[aB]
    refine rS 23 rfl d ?_
    try simp only[aB]
    refine rT 24 ?q3v24 rfl ?Tk d ?q3r24
    case Tk=>(rintro f⟨⟨g,j,n⟩,⟨q,t,u⟩,c⟩;go_simp<;>rfl)
    try simp only[aB]
    refine rD ?_
    obtain⟨_,_,A⟩:=d;go_wp2;go_ret;exact⟨by first|rfl|(rw[C.o];rfl),A⟩
   exact absurd rfl M
  have Q:decide ((k:Int)<n1)=false:=aC (by omega);have C:=ag (show decide (l=m)=true by
   have:=P.o
   rw[Xa1 (by have:=E1.o;omega),Xa1 (by have:=E2.o;omega)]at this;simpa using this)
  go_wp2;go_ret;exact⟨by first|rfl|(rw[C.o];rfl),v⟩
 have al:((n1:Int) !=n2)=true:=by simpa using(by omega:¬(n1:Int)=n2)
 have C:=ag (show decide (l=m)=false by
  simp only[Xd9];intro e;apply hn;rw[E1.o,E2.o,e])
 go_enter Tryz.func139,Tryz.ntmps139;go_wp2;go_ret;exact⟨by first|rfl|(rw[C.o];rfl),aF⟩
end Go.Proofs.YtmeaiocohalphaaGreatDoor
