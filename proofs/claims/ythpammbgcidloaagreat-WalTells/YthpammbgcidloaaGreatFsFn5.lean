/-
  A directory in new memory; bytes as whole blocks.
-/
import Derived.Test.YthpammbgcidloaaGreatFiApart
import Derived.ProofKit
import Derived.Deep.Slices
import Derived.Deep.Strs
import Derived.Lib.SmallJoins
set_option maxHeartbeats 4000000
set_option maxRecDepth 100000
namespace Go.Proofs.YthpammbgcidloaaGreat
open Go.RowKit
set_option linter.all false
theorem Qe {k:Nat} (h:k<1000000000):wrap64 ((k:Int)+1 - 1)=(k:Int):=by unfold wrap64;omega
theorem K3 (A B:Int) (a:au) (n c:Nat) (l:List Ex) (w:World) (I:RdE w (.slice a n c) l) (hn:n=l.length) (Y:∀x∈l,wfX x):
  Calls Tryz.prog 120 #[.int .i64 A,.int .i64 B,.slice a n c] w fun e w'=>∃v,e=.returned (.tuple #[v,.int .i64 (jY A B l)])∧bB w' w.heap.size v (jF A B l)∧ah w w':=by
 have Z:n<=maxLen:=hn ▸ I.len_le;have HR:=ag I;have J:=ag hn;have HW:=ag Y;clear I hn Y;by_cases h1:A<0
 ·have r:=ag (L8 (B:=B) (l:=l) (.inl h1:A<0∨B<A∨4096<B))
  go_enter Tryz.func120,Tryz.ntmps120;go_wp2;go_ret2;exact ⟨_,by rw [r.o.1];rfl,by rw [r.o.2];exact bB.nil _ _,aB⟩
 have aa:decide (A<0)=false:=by simpa using h1
 by_cases h2:B<A
 ·have r:=ag (L8 (B:=B) (l:=l) (.inr (.inl h2):A<0∨B<A∨4096<B))
  go_enter Tryz.func120,Tryz.ntmps120;go_wp2;go_ret2;exact ⟨_,by rw [r.o.1];rfl,by rw [r.o.2];exact bB.nil _ _,aB⟩
 have ab:decide (B<A)=false:=by simpa using h2
 by_cases h3:4096<B
 ·have r:=ag (L8 (A:=A) (l:=l) (.inr (.inr h3):A<0∨B<A∨4096<B))
  go_enter Tryz.func120,Tryz.ntmps120;go_wp2;go_ret2;exact ⟨_,by rw [r.o.1];rfl,by rw [r.o.2];exact bB.nil _ _,aB⟩
 have ac:decide (4096<B)=false:=by simpa using h3
 obtain ⟨p,rfl⟩:∃p:Nat,A=p:=⟨A.toNat,by omega⟩;obtain ⟨m,hm⟩:∃m:Nat,B=p+m:=⟨(B - p).toNat,by omega⟩;have X:=ag (qr1 (A:=(p:Int)) (B:=B) (l:=l) (by omega));have r:=ag hm
 have ad:p+m<=4096:=by omega
 clear hm;by_cases g1:n > 4096
 ·have D:=ag (show dI l=4 by have:=J.o;unfold dI;rw [if_pos (by omega)])
  have HL:=ag (Wi (A:=(p:Int)) (B:=B) (l:=l) (by rw [X.o,D.o];decide));have K:(4096:Int)<n:=by omega
  unfold maxLen at Z;go_enter Tryz.func120,Tryz.ntmps120;go_wp2;go_ret2;exact ⟨_,by rw [X.o,D.o];rfl,by rw [HL.o];exact bB.nil _ _,aB⟩
 have K:decide ((4096:Int)<n)=false:=aA (by omega);clear Z;go_enter Tryz.func120,Tryz.ntmps120;go_wp2;go_loopw [8] (fun i wr=>∃k:Nat,k<=n∧i=.int .i64 k∧af (∀x∈l.take k,eP x=true)∧ah w wr) (fun i _=>n - (intOf i).toNat)
 case atStart=>exact ⟨0,Nat.zero_le _,rfl,ag (by simp),aB⟩
 case round=>
  obtain ⟨k,hk,rfl,y,d⟩:=hrel;by_cases aN:k<n
  ·have aF:(k:Int)<n:=by omega
   have E:k<l.length:=by have:=J.o;omega
   have al:wrap64 ((k:Int)+1)=(k:Int)+1:=vo (by omega);obtain ⟨b,ax,e,q0,q1⟩:=(HR.o.a d).at k E;subst e;go_wp2_with fail
   refine (qvt (l[k]) (HW.o _ (List.getElem_mem E)) _).mono ?_
   rintro e wc ⟨rfl,am⟩;have iP:ah w wc:=d.trans (am.mono d.size);clear am;cases hp:eP l[k] with
   | false=>
    have D:=ag (Zt E (by have:=J.o;omega) hp);have HL:=ag (Wi (A:=(p:Int)) (B:=B) (l:=l) (by rw [X.o,D.o];decide));clear hp;go_wp2;go_ret2;exact ⟨_,by rw [X.o,D.o];rfl,by rw [HL.o];exact bB.nil _ _,iP⟩
   | true=>
    have HA:=ag (show ∀x∈l.take (k+1),eP x=true by
     intro x F;rw [oO l k E] at F;rcases List.mem_append.1 F with F | F
     ·exact y.o x F
     ·rw [List.mem_singleton.1 F];exact hp)
    clear hp;go_wp2;go_roundw
    case rel=>exact ⟨k+1,by omega,rfl,HA,iP⟩
    case measure=>simp only [intOf];omega
  ·have hd:decide ((k:Int)<n)=false:=aA (by omega)
   have e:k=l.length:=by have:=J.o;omega
   have D:=ag (show dI l=0 from Zu (by have:=J.o;omega) (by rw [<-e];exact y.o));have pE:=ag (fun x F=>(qz x).2 ((uB D.o).2 x F):∀x∈l,eP x=true);clear e y HW;go_wp2;go_loopw [9,10] (fun v i wr=>∃k:Nat,k<=m∧i=.int .i64 ((p:Int)+(k:Int))∧af (bB wr w.heap.size v (jX (ed l) p k))∧ah w wr) (fun _ i _=>(B - intOf i).toNat)
   case atStart=>exact ⟨0,Nat.zero_le _,by simp,ag (bB.nil _ _),d⟩
   case round=>
    obtain ⟨k,hk,rfl,ho,d⟩:=hrel;by_cases om:k<m
    ·have G8:(p:Int)+(k:Int)<B:=by have:=r.o;omega
     have an:wrap64 ((p:Int)+(k:Int)+1)=(p:Int)+(k:Int)+1:=by unfold wrap64;omega
     have z:=VH (ed l) p k;have ao:=ag (qrm (u:=ed l) (a:=p) (k:=k) (by omega) (by omega));have sZ:=ag (show jX (ed l) p (k+1)=if ed l ((p:Int)+(k:Int)) then jX (ed l) p k else xK (jX (ed l) p k) ((p:Int)+(k:Int)) from rfl);have ap:0<=(p:Int)+(k:Int):=by omega
     have aq:(p:Int)+(k:Int)<4096:=by omega
     have sP:=ag (show k+1<=m from om);obtain ⟨N,yZ⟩:∃N:Int,N=(p:Int)+(k:Int):=⟨_,rfl⟩;rw [<-yZ] at G8 an sZ ap aq;have WY:=ag yZ;rw [<-yZ];clear yZ;obtain ⟨L,hL⟩:=ai (jX (ed l) p k);rw [<-hL] at ho z ao sZ;clear hL;obtain ⟨a7,c7,rfl⟩:=ho.o.form;generalize hq:L.length=q at *;have M:=ag hq;clear hq;go_wp2
     go_loopw [11,12] (fun s i wr=>∃j:Nat,j<=n∧i=.int .i64 j∧s=.bool (ed (l.take j) N)∧af (bB wr w.heap.size (.slice a7 q c7) L)∧ah w wr) (fun _ i _=>n - (intOf i).toNat)
     case atStart=>exact ⟨0,Nat.zero_le _,rfl,by simp [ed],ho,d⟩
     case round=>
      obtain ⟨j,hj,rfl,rfl,f,G⟩:=hrel;by_cases aO:j<n
      ·have aH:(j:Int)<n:=by omega
       have O:j<l.length:=by have:=J.o;omega
       have al:wrap64 ((j:Int)+1)=(j:Int)+1:=vo (by omega);obtain ⟨b,ax,e,q0,q1⟩:=(HR.o.a G).at j O;subst e;have HS:=ag (show ed (l.take (j+1)) N=(ed (l.take j) N || iA l[j] N) by rw [oO l j O,FZ]);have lJ:n<=4096:=by omega
       clear an ap aq z G8 h1 aa h2 ab h3 ac g1 K hk om ad;cases hi:ed (l.take j) N with
       | true=>
        have rU:=ag (show ed (l.take (j+1)) N=true by rw [HS.o,hi];rfl);clear hi;go_wp2;go_roundw
        case rel=>exact ⟨j+1,by omega,rfl,by rw [rU.o],f,G⟩
        case measure=>simp only [intOf];omega
       | false=>
        have rU:=ag (show ed (l.take (j+1)) N=iA l[j] N by rw [HS.o,hi];simp);clear hi;go_wp2_with fail
        refine (ZG (l[j]) (pE.o _ (List.getElem_mem O)) N _).mono ?_
        rintro e wd ⟨rfl,Q⟩;have ay:=ag (f.o.a Q);have ar:=G.trans (Q.mono G.size);clear Q;go_wp2;go_roundw
        case rel=>exact ⟨j+1,by omega,rfl,by rw [rU.o],ay,ar⟩
        case measure=>simp only [intOf];omega
      ·have hd:decide ((j:Int)<n)=false:=aA (by omega)
       have HI:=ag (show ed (l.take j) N=ed l N by rw [List.take_of_length_le (by have:=J.o;omega)]);have aP:q<=4096:=by omega
       clear h1 aa h2 ab h3 ac g1 K hk om ad z;rw [HI.o];cases hi:ed l N with
       | true=>
        have S:=ag (show bB wr w.heap.size (.slice a7 q c7) (jX (ed l) p (k+1)) by rw [sZ.o,hi,if_pos rfl];exact f.o);clear hi;go_wp2;go_roundw
        case rel=>exact ⟨k+1,sP.o,congrArg (Value.int .i64) (by have:=WY.o;omega),S,G⟩
        case measure=>simp only [intOf];omega
       | false=>
        have HG:=ag (show jX (ed l) p (k+1)=xK L N by rw [sZ.o,hi];rfl);have qG:=ag (qvu f.o G.size (by have:=M.o;omega) N 1);clear hi sZ;cases q with
        | zero=>
         have av:L=[]:=List.length_eq_zero_iff.1 M.o;have aD:=ag (show jX (ed l) p (k+1)=L++[(N,1)] by rw [HG.o,av];rfl);clear av HG;go_wp2;go_quiet (fail)
         obtain ⟨g9,c9,w9,h,H,dR⟩:=qG.o nq;rw [<-aD.o] at H;rw [M.o] at H h;have S:=ag H;have bI:=G.trans dR;clear H dR;go_wp2_with (at_builtin;refine ku rfl (.tmp 90) (.tmp 93) 96 rfl rfl rfl rfl h ?_)
         go_roundw
         case rel=>exact ⟨k+1,sP.o,congrArg (Value.int .i64) (by have:=WY.o;omega),S,bI⟩
         case measure=>simp only [intOf];omega
        | succ t=>
         have hz:=M.o;obtain ⟨g,e,aw, -,a0, -⟩:=f.o.lies (by intro e;rw [e] at hz;simp at hz);subst e;have C:t<L.length:=by omega
         have F:=(qz _).1 (ao.o _ (List.getElem_mem C));obtain ⟨b',aJ,e,c1,c2⟩:=f.o.rd.at t C;cases e;rw [Nat.zero_add] at c1 c2;have fr:=fun j=>f.o.frozen M.o.symm j
         obtain ⟨s1,g1⟩:=f.o.stored M.o.symm t C ((L[t]).2+1);have T:=ag (fun hN=>(qrk (N:=N) C hz.symm hN).trans HG.o.symm);have U:=ag (fun hN=>(qrl (N:=N) C hz.symm hN).trans HG.o.symm);have HS:=ag s1;have aE:=ag g1;have NK:=ag aw;have al:wrap64 ((t:Int)+1 - 1)=t:=Qe (by omega);clear s1 g1 hz aw HG;generalize hp:(L[t]).1=P at *;generalize hq:(L[t]).2=R at *;have a1:wrap64 (P+R)=P+R:=by unfold wrap64;omega
         have aK:IntKind.i64.wrap (P+R)=P+R:=by rw [IntKind.wrap_i64];omega
         have a2:wrap64 (R+1)=R+1:=by unfold wrap64;omega
         have a3:(t:Int)<((t+1:Nat):Int):=by omega
         clear hp hq;by_cases V:P+R=N
         ·have W:=ag (T.o V)
          clear T U qG;go_wp2;go_quiet (fail)
          go_wp2;go_roundw
          case rel=>exact ⟨k+1,sP.o,congrArg (Value.int .i64) (by have:=WY.o;omega),ag (by rw [<-W.o];exact HS.o),(below_drewN G _).setCell NK.o _⟩
          case measure=>simp only [intOf];omega
         ·have W:=ag (U.o V)
          have aM:(P+R==N)=false:=by simpa using V
          clear T U HS aE;go_wp2;go_quiet (fail)
          obtain ⟨g9,c9,w9,h,H,dR⟩:=qG.o nq;rw [W.o] at H;rw [M.o] at H h;have S:=ag H;have bI:=G.trans dR;clear H dR;go_wp2_with (at_builtin;refine ku rfl (.tmp 90) (.tmp 93) 96 rfl rfl rfl rfl h ?_)
          go_roundw
          case rel=>exact ⟨k+1,sP.o,congrArg (Value.int .i64) (by have:=WY.o;omega),S,bI⟩
          case measure=>simp only [intOf];omega
    ·have G8:decide ((p:Int)+(k:Int)<B)=false:=by have:=r.o;simpa using (by omega:¬(p:Int)+(k:Int)<B)
     have S:=ag (show bB wr w.heap.size _ (jF p B l) by
      have e:jF p B l=jX (ed l) p k:=by
       unfold jF;rw [if_pos (by rw [X.o,D.o]),show (B - (p:Int)).toNat=k by have:=r.o;omega]
      rw [e];exact ho.o)
     go_wp2;go_ret2;exact ⟨_,by rw [X.o,D.o];rfl,S.o,d⟩
def vT (L:List Ex) (W:Int) (i:Nat) (Z:Int) (O:List Ex):Prop:=(Z=W - gz (L.take i)∧1<=Z∧O=L.take i)∨(Z=0∧fI L W=some O)
theorem vT.last {L:List Ex} {W Z:Int} {i:Nat} {O:List Ex} (h:vT L W i Z O) (b:i<L.length) (e:0<Z) (c:∀x∈L,1<=x.2) (d:Z<=(L[i]).2):vT L W (i+1) 0 (O++[((L[i]).1,Z)]):=by
 rcases h with ⟨a,f,rfl⟩ | ⟨a,_⟩
 ·refine .inr ⟨rfl, ?_⟩
  rw [qrj (w:=W) b (by omega) c (by omega),a]
 ·omega
theorem vT.more {L:List Ex} {W Z:Int} {i:Nat} {O:List Ex} (h:vT L W i Z O) (a:i<L.length) (d:0<Z) (b:(L[i]).2<Z):vT L W (i+1) (Z - (L[i]).2) (O++[((L[i]).1,(L[i]).2)]):=by
 rcases h with ⟨c,e,rfl⟩ | ⟨c,_⟩
 ·refine .inl ⟨?_,by omega, ?_⟩
  ·rw [oO L i a,VG];omega
  ·rw [oO L i a]
 ·omega
theorem II (A B W:Int) (a:au) (n c:Nat) (l:List Ex) (w:World) (G:RdE w (.slice a n c) l) (hn:n=l.length) (H:∀x∈l,wfX x):
  Calls Tryz.prog 67 #[.int .i64 A,.int .i64 B,.slice a n c,.int .i64 W] w fun e w'=>∃v,e=.returned (.tuple #[v,.int .i64 (kK A B l W)])∧bB w' w.heap.size v (jQ A B l W)∧ah w w':=by
 have HF:=ag (K3 A B a n c l w G hn H);clear G hn H;go_enter Tryz.func67,Tryz.ntmps67;go_wp2_with fail
 refine HF.o.mono ?_
 rintro e wa ⟨v,rfl,p,C⟩;have HO:=ag p;obtain ⟨av,cv,rfl⟩:=p.form;clear p HF;by_cases k:jY A B l=0
 ·by_cases I:W<1
  ·have f:=ag (F3 k (.inl I:W<1∨4096<W))
   rw [k];clear k;go_wp2;go_ret2;exact ⟨_,by rw [f.o.1];rfl,by rw [f.o.2];exact bB.nil _ _,C⟩
  ·have ad:decide (W<1)=false:=by simpa using I
   by_cases J:4096<W
   ·have f:=ag (F3 k (.inr J:W<1∨4096<W))
    rw [k];clear k;go_wp2;go_ret2;exact ⟨_,by rw [f.o.1];rfl,by rw [f.o.2];exact bB.nil _ _,C⟩
   ·have al:decide (4096<W)=false:=by simpa using J
    obtain ⟨r1,r2,r3⟩:=LK k;obtain ⟨f1,f2,f3,f4⟩:=VI k;have HR:=ag (fun x U=>by have:=r1.1 x U;omega:∀x∈jF A B l,0<=x.1∧1<=x.2∧x.1+x.2<=4096);have HP:=ag (fun x U=>(HR.o x U).2.1:∀x∈jF A B l,1<=x.2);have K:=ag (fun r V=>qns k (by omega) (by omega) V:∀r,fI (jF A B l) W=some r->kK A B l W=0∧jQ A B l W=r);have X:=ag (fun V=>qnt k (by omega) (by omega) V:fI (jF A B l) W=none->kK A B l W=40∧jQ A B l W=[]);rw [k];clear k r1 r2 f1 f2 f3 f4;generalize jF A B l=L at *;generalize hm:L.length=m at *;have HM:=ag hm;have s:=C.size;have Y:=ag HO.o.rd;have M:=ag (show (1:Int)<=W by omega);have aa:=ag (show W<=4096 by omega);clear hm;go_wp2;go_loopw [3,12,13] (fun z v i wr=>∃(j:Nat) (Z:Int) (O:List Ex),j<=m∧i=.int .i64 j∧z=.int .i64 Z∧af (bB wr wa.heap.size v O)∧af (vT L W j Z O)∧0<=Z∧Z<=4096∧O.length<=j∧ah wa wr) (fun _ _ i _=>m - (intOf i).toNat)
    case atStart=>exact ⟨0,W,[],Nat.zero_le _,rfl,rfl,ag (bB.nil _ _),ag (.inl ⟨by simp [gz],M.o,by simp⟩),by have:=M.o;omega,aa.o,by simp,aB⟩
    case round=>
     obtain ⟨j,Z,O,hj,rfl,rfl,N,t,an,Aj,ao,d⟩:=hrel;by_cases ap:j<m
     ·have CJ:(j:Int)<m:=by omega
      have y:j<L.length:=by have:=HM.o;omega
      by_cases P:0<Z
      ·obtain ⟨b,aq,e,q0,q1⟩:=(Y.o.a d).at j y
       subst e;have U:=HR.o _ (List.getElem_mem y);have ar:wrap64 ((j:Int)+1)=(j:Int)+1:=vo (by omega);obtain ⟨aw,ax,rfl⟩:=N.o.form;generalize Q:O.length=q at *;have HQ:=ag Q;by_cases ab:Z<=(L[j]).2
       ·have HS:=ag (t.o.last y P HP.o ab)
        obtain ⟨g9,c9,w9,g,D,R⟩:=ZE N.o d.size (by omega) (L[j]).1 Z;rw [Q] at g D;have jT:=ag D;have bI:=d.trans R;have am:(if Z<(L[j]).2 then Z else (L[j]).2)=Z:=by split<;>omega
        have ac:(if (L[j]).2<Z then (L[j]).2 else Z)=Z:=by split<;>omega
        have F:min Z (L[j]).2=Z:=by omega
        have u:(O++[((L[j]).1,Z)]).length<=j+1:=by simp;omega
        clear D R Q;go_wp2_with (at_builtin;refine ku rfl (.tmp 48) (.tmp 56) 96 rfl rfl rfl rfl g ?_)
        go_roundw
        case rel=>exact ⟨j+1,0,_,by omega,rfl,by simp,jT,HS,by omega,by omega,u,bI⟩
        case measure=>simp only [intOf];omega
       ·have HS:=ag (t.o.more y P (by omega))
        obtain ⟨g9,c9,w9,g,D,R⟩:=ZE N.o d.size (by omega) (L[j]).1 (L[j]).2;rw [Q] at g D;have jT:=ag D;have bI:=d.trans R;have F:min Z (L[j]).2=(L[j]).2:=by omega
        have u:(O++[((L[j]).1,(L[j]).2)]).length<=j+1:=by simp;omega
        clear D R Q;go_wp2_with (at_builtin;refine ku rfl (.tmp 48) (.tmp 56) 96 rfl rfl rfl rfl g ?_)
        go_roundw
        case rel=>exact ⟨j+1,_,_,by omega,rfl,rfl,jT,HS,by omega,by omega,u,bI⟩
        case measure=>simp only [intOf];omega
      ·have S:decide (0<Z)=false:=by simpa using P
       have T:=ag (show fI L W=some O by
        rcases t.o with ⟨_,h,_⟩ | ⟨_,h⟩
        ·omega
        ·exact h)
       have f:=ag (K.o _ T.o);go_wp2;go_ret2;exact ⟨_,by rw [f.o.1];rfl,by rw [f.o.2];exact N.o.mono s,C.trans (d.mono s)⟩
     ·have hd:decide ((j:Int)<m)=false:=aA (by omega)
      by_cases P:0<Z
      ·have T:=ag (show fI L W=none by
        rcases t.o with ⟨h1,h,_⟩ | ⟨h,_⟩
        ·rw [List.take_of_length_le (by have:=HM.o;omega)] at h1
         exact qvs (by omega) HP.o
        ·omega)
       have f:=ag (X.o T.o);go_wp2;go_ret2;exact ⟨_,by rw [f.o.1];rfl,by rw [f.o.2];exact bB.nil _ _,C.trans (d.mono s)⟩
      ·have S:decide (0<Z)=false:=by simpa using P
       have T:=ag (show fI L W=some O by
        rcases t.o with ⟨_,h,_⟩ | ⟨_,h⟩
        ·omega
        ·exact h)
       have f:=ag (K.o _ T.o);go_wp2;go_ret2;exact ⟨_,by rw [f.o.1];rfl,by rw [f.o.2];exact N.o.mono s,C.trans (d.mono s)⟩
 ·have f:=ag (ZC (w:=W) k)
  generalize hE:jY A B l=E at *;have ay:(E==0)=false:=by simpa using k
  go_wp2;go_ret2;exact ⟨_,by rw [f.o.1];rfl,by rw [f.o.2];exact bB.nil _ _,C⟩
open Go.RowKit Go.Deep
theorem Tryz.cellsInE:Tryz.prog.cellsOf 3=1:=by kernel_rfl
theorem Tryz.cellsExE:Tryz.prog.cellsOf 185=2:=by kernel_rfl
theorem qabp {H:Type} {enc:TypeId × Value->H} {W:World} {base:Nat} {e:Nat->Bool} {held:Bool} {fuel:Nat} {u:Value} {x:DataW H × List MemPlace}
  (h:DataW.trod enc Tryz.prog W base e held fuel 96 [u]=some x):∃l:List Ex,RdE W u l∧∀x∈l,wfX x:=by
 rcases open_slice Tryz.underlying96 h with ⟨a,_⟩ | ⟨o,len,cap,m,n,D,R,a,_,G,I,v,_,q⟩
 ·simp at a
  subst a;exact ⟨[],.inl ⟨rfl,.inl rfl⟩,by simp⟩
 ·simp at a
  subst a;by_cases J:len=0
  ·subst J
   exact ⟨[],.inl ⟨rfl,.inr ⟨_,_,rfl⟩⟩,by simp⟩
  have K:len<=m:=by rw [v];split<;>omega
  rw [Tryz.cellsExE] at q;have r:∀i,i<len->∃p:Ex,W.cell? (o.add (i*2))=some (.int .i64 p.1)∧W.cell? ((o.add (i*2)).add 1)=some (.int .i64 p.2)∧wfX p:=by
   intro i S;obtain ⟨w,L,M⟩:=q i (by omega);obtain ⟨_,s,c⟩:=World.cells?_some L;obtain ⟨T,U,k,_,_,E,F⟩:=Go.ChangeShapes.trod_struct2 Tryz.underlying185 M
   match w,s with
   | [c0,c1],_=>
    simp only [Tryz.cellsInE,List.drop_zero,List.drop_succ_cons,List.take_succ_cons,List.take_zero] at E F;obtain ⟨N,e0,_,y⟩:=DataW.trod_int Tryz.underlying3 E;obtain ⟨n1,e1,_,z⟩:=DataW.trod_int Tryz.underlying3 F;simp at e0 e1
    subst e0 e1;obtain ⟨V,X⟩:=bounds_i64 y;obtain ⟨Y,Z⟩:=bounds_i64 z;have O:=c 0 (by omega);have P:=c 1 (by omega);refine ⟨(N,n1), ?_, ?_,by dsimp only [wfX];omega⟩
    ·rw [show o.add (i*2)=(o.add (i*2)).add 0 by simp [Addr.add]];simpa using O
    ·rw [P];simp
  obtain ⟨f,A⟩:=choose_lt r;have g:∃b d,o=⟨b,d,none⟩:=by
   obtain ⟨b,d,t⟩:=o;have:=World.cell?_spot (A 0 (by omega)).1
   have Q:t=none:=by simpa [Addr.add] using this
   subst Q;exact ⟨b,d,rfl⟩
  obtain ⟨b,d,rfl⟩:=g;refine ⟨(List.range len).map f,.inr ⟨b,d,cap,by simp,by simpa using G,I,fun j B=>?_⟩,fun x q=>?_⟩
  ·have C:j<len:=by simpa using B
   have:=A j C
   rw [Addr.add_lit,Addr.add_lit] at this;simpa using ⟨this.1,this.2.1⟩
  ·simp only [List.mem_map,List.mem_range] at q
   obtain ⟨j,B,rfl⟩:=q;exact (A j B).2.2
theorem xf (A B:Int) (l:List Ex):(jF A B l).length<=4096:=by
 by_cases h:jY A B l=0
 ·exact (LK h).2.2
 ·rw [Wi h];simp
theorem qwt:∀(l:List Ex) (w:Int) (r:List Ex),fI l w=some r->r.length<=l.length
 | [],w,r,h=>by cases h
 | x::l,w,r,h=>by
  rw [qri] at h;split at h
  ·cases h;simp
  ·rw [Option.map_eq_some_iff] at h
   obtain ⟨a,b,rfl⟩:=h;have:=qwt l _ a b
   simp;omega
theorem qsm (A B:Int) (l:List Ex) (w:Int):(jQ A B l w).length<=4096:=by
 unfold jQ;split
 ·simp
 ·split
  ·simp
  ·cases h:fI (jF A B l) w with
   | none=>simp
   | some r=>
    have:=qwt _ _ _ h
    have:=xf A B l
    simp only [Option.getD_some];omega
theorem Qg (x:FsV) (f:Fsd) (s:ak) (n:Int) (w:World) (h:RdX w x f) (hw:WfX f):
  Calls Tryz.prog 53 #[x.val,.string (bs s),.int .i64 n] w fun e w'=>∃v,e=.returned (.tuple #[.agg #[v],.int .i64 (oQ f s n)])∧bJ w' w.heap.size v (mr f s n)∧ah w w':=by
 have HW:=ag hw;clear hw;obtain ⟨A,ew⟩:=aj ((w.alloc (.cells x.cs 32)).alloc (.cells #[.slice none 0 0] 30));have aa:ah w (w.alloc (.cells x.cs 32)):=ae;have ab:ah w A:=by rw [<-ew];exact aa.alloc (by simp) _
 have fG:=ag (show bf A w.heap.size x by rw [<-ew];exact (Bq.new w 32 x.cs).a (ae));have qc:=ag (show dV A (w.heap.size+1) by
  have:=dV.new (w.alloc (.cells x.cs 32)) (.slice none 0 0)
  rw [<-ew];simpa using this)
 obtain ⟨V,W,X,Y,Z,k5⟩:=aV fG.o;have K:=ag h;have bi:=ag ab;clear h ab aa;unfold FsV.val;unfold FsV.cs at ew;go_enter Tryz.func53,Tryz.ntmps53;go_wp2_with fail
 refine (qwf _ _ _ f.2.2.1 s A (K.o.fl.a bi.o) K.o.n4 HW.o.fl).mono ?_
 rintro e B ⟨v2,rfl,ac,C⟩;have mO:=ag (fG.o.a C);have uJ:=ag (qc.o.a C);have bg:=bT bi C;clear V W X Y Z k5 ew C;obtain ⟨m2,ad⟩:=ai ((nu f.2.2.1 s).2.length);obtain ⟨y2,z2,e2⟩:∃a c,v2=.slice a m2 c:=by rw [ad];exact ac.form
 subst e2;clear ac ad;obtain ⟨n9,qd⟩:=ai ((nu f.2.2.1 s).1);rw [<-qd];clear qd;obtain ⟨w3,ow⟩:=aj (B.alloc (.cells #[.string (bs n9),.slice y2 m2 z2] 98));have D:ah B w3:=by rw [<-ow];exact ae
 have vP:=ag (mO.o.a D);have E:=ag (uJ.o.a D);have bU:=bT bg D;clear D;obtain ⟨te,d⟩:=ai (gN f.2.2.1 s);rw [<-d];by_cases g1:te=0
 ·have p:=ag (show oQ f s n=51 by unfold oQ;rw [if_pos (by rw [<-d];exact g1)])
  have L:=ag (show mr f s n=[] by unfold mr;rw [if_neg (by rw [p.o];decide)]);subst g1;clear d;have M:=E.o.cell;have N:=E.o.fz;obtain ⟨O,q, -⟩:=E.o.put (.slice none 0 0);obtain ⟨y,F⟩:=E.o;have t:=ag (show bJ (w3.setCell ⟨w.heap.size+1,0,none⟩ (.slice none 0 0)) w.heap.size (.slice none 0 0) _ from bJ.nil _ _);have z:=ag (bU.o.grown q bU.o.size (by intro k P;cases P;omega));clear F q;go_wp2;obtain ⟨G,r⟩:=ai (w3.setCell ⟨w.heap.size+1,0,none⟩ (.slice none 0 0));rw [<-r] at O t z ⊢;try simp only [Exit.inBlock,Exit.then]
  refine bodyPost_ret (v:=.tuple #[.agg #[.slice none 0 0],.int .i64 51]) ?_ rfl ⟨.slice none 0 0,by rw [p.o],by rw [L.o];exact t.o,z.o⟩
  clear r M N;simp [results,Tryz.results53,go_sem, *]
 by_cases g2:¬te=6
 ·have p:=ag (show oQ f s n=te by unfold oQ;rw [if_neg (by rw [<-d];exact g1),if_pos (by rw [<-d];exact g2),<-d])
  have L:=ag (show mr f s n=[] by unfold mr;rw [if_neg (by rw [p.o];exact g1)]);clear d;have M:=E.o.cell;have N:=E.o.fz;obtain ⟨O,q, -⟩:=E.o.put (.slice none 0 0);obtain ⟨y,F⟩:=E.o;have t:=ag (show bJ (w3.setCell ⟨w.heap.size+1,0,none⟩ (.slice none 0 0)) w.heap.size (.slice none 0 0) _ from bJ.nil _ _);have z:=ag (bU.o.grown q bU.o.size (by intro k P;cases P;omega));clear F q;go_wp2;obtain ⟨G,r⟩:=ai (w3.setCell ⟨w.heap.size+1,0,none⟩ (.slice none 0 0));rw [<-r] at O t z ⊢;try simp only [Exit.inBlock,Exit.then]
  refine bodyPost_ret (v:=.tuple #[.agg #[.slice none 0 0],.int .i64 te]) ?_ rfl ⟨.slice none 0 0,by rw [p.o],by rw [L.o];exact t.o,z.o⟩
  clear r M N;simp [results,Tryz.results53,go_sem, *]
 rw [Decidable.not_not] at g2;have p:=ag (show oQ f s n=(if kK 34 (fQ f) (fO f) n≠0 then kK 34 (fQ f) (fO f) n else gU f.2.2.1 s (jQ 34 (fQ f) (fO f) n) (fQ f)) by
  unfold oQ;rw [if_neg (by rw [<-d];exact g1),if_neg (by rw [<-d];simpa using g2)])
 subst g2;clear d g1;have j:aL (fun g=>bf g w.heap.size x∧ah w g):=fun A B h m=>⟨h.1.a m,h.2.trans (m.mono h.2.size)⟩
 have Qh:aL (fun g=>dV g (w.heap.size+1)):=fun A B h m=>h.a m
 have j:=aL.and j Qh;go_wp2_with fail
 try rw [ow]
 clear ow;refine gH j (by kernel_rfl) ⟨⟨vP.o,bU.o⟩,E.o⟩ ?_
 intro b;refine dm [0,2,4] (fuel:=8) (a':=?vU) (by kernel_rfl) (by kernel_rfl) (by kernel_rfl) ?lD b ?vV
 case lD=>
  iterate 3 (apply Yl.cons rfl rfl;focus (rintro g ⟨⟨H,x2⟩,x9⟩;obtain ⟨V,W,X,Y,Z,k5⟩:=aV H;go_simp<;>with_reducible rfl);try simp only [az])
  exact Yl.nil
 refine qo j (i:=1) (v:=.int .i64 (fQ f)) rfl (by kernel_rfl) (by rfl) (by go_simp) b (vU x f _ (K.o.a b.1.2)) ?_
 clear b;intro av b;try simp only [az]
 refine uT j (i:=3) (R:=fun v g=>bB g w.heap.size v (fO f)) rfl (by kernel_rfl) (by rfl) (by go_simp) b ((Bw x f _ (K.o.a b.1.2) HW.o).mono fun e wy ⟨v,h1,h2,h3⟩=>⟨v,h1,h2.mono b.1.2.size,h3⟩) (fun v A B h m=>h.a m) ?_
 intro an aw l jK J;clear j b;have j:=l;have b:=J;clear l J;obtain ⟨mU,Q⟩:=ai ((fO f).length);obtain ⟨yU,zU,ao⟩:∃a c,an=.slice a mU c:=by rw [Q];exact jK.form
 subst ao;have ap:=ag Q;clear Q;clear jK;try simp only [az]
 refine uT j (i:=5) (R:=fun v g=>∃u,v=.tuple #[u,.int .i64 (kK 34 (fQ f) (fO f) n)]∧bB g w.heap.size u (jQ 34 (fQ f) (fO f) n)) rfl (by kernel_rfl) (by rfl) (by go_simp) b ((EG 34 (fQ f) n yU mU zU (fO f) _ b.2.rd ap.o (qsd f)).mono fun e wy ⟨v,h1,h2,h3⟩=>⟨_,h1,⟨v,rfl,h2.mono b.1.1.2.size⟩,h3⟩) (fun v A B ⟨u,h1,h2⟩ m=>⟨u,h1,h2.a m⟩) ?_
 intro ax al l jK J;clear j b;have j:=l;have b:=J;clear l J;obtain ⟨u31,rfl,Ak⟩:=jK;try simp only [az]
 refine dm [6,7,8,9,10] (fuel:=0) (a':=?Al) (by kernel_rfl) (by kernel_rfl) (by kernel_rfl) ?oD b ?Am
 case oD=>
  iterate 5 (apply Yl.cons rfl rfl;focus (rintro g ⟨⟨⟨⟨H,x2⟩,x9⟩,_⟩,_⟩;obtain ⟨V,W,X,Y,Z,k5⟩:=aV H;go_simp<;>with_reducible rfl);try simp only [az])
  exact Yl.nil
 refine wpAnyH_done (by kernel_rfl) ?_ _
 refine NoPanic.normal ?_
 try simp only [az]
 have G9:=ag b.1.1.1.2;have Ha:=ag b.1.1.1.1;have Qi:=ag b.1.1.2;clear b j Qh;obtain ⟨tk,I⟩:=ai (kK 34 (fQ f) (fO f) n);rw [<-I] at p ⊢;by_cases g3:¬tk=0
 ·rw [if_pos g3] at p
  have L:=ag (show mr f s n=[] by unfold mr;rw [if_neg (by rw [p.o];exact g3)]);clear I Ak;have M:=Qi.o.cell;have N:=Qi.o.fz;obtain ⟨O,q, -⟩:=Qi.o.put (.slice none 0 0);obtain ⟨y,F⟩:=Qi.o;have t:=ag (show bJ (al.setCell ⟨w.heap.size+1,0,none⟩ (.slice none 0 0)) w.heap.size (.slice none 0 0) _ from bJ.nil _ _);have z:=ag (G9.o.grown q G9.o.size (by intro k P;cases P;omega));clear F q;go_wp2;obtain ⟨G,r⟩:=ai (al.setCell ⟨w.heap.size+1,0,none⟩ (.slice none 0 0));rw [<-r] at O t z ⊢;try simp only [Exit.inBlock,Exit.then]
  refine bodyPost_ret (v:=.tuple #[.agg #[.slice none 0 0],.int .i64 tk]) ?_ rfl ⟨.slice none 0 0,by rw [p.o],by rw [L.o];exact t.o,z.o⟩
  clear r M N;simp [results,Tryz.results53,go_sem, *]
 rw [if_neg g3] at p;rw [Decidable.not_not] at g3;subst g3;have Qj:=ag (show (jQ 34 (fQ f) (fO f) n).length<=4096∧∀x∈jQ 34 (fQ f) (fO f) n,wfX x from ⟨qsm _ _ _ _,LZ (by decide) I.symm⟩);clear I;obtain ⟨T,hT⟩:=ai (jQ 34 (fQ f) (fO f) n);have ky:=ag (by rw [hT];exact Qj.o:T.length<=4096∧∀x∈T,wfX x);clear Qj;have L:=ag (show mr f s n=kN f.2.2.1 s T (fQ f) by
  unfold mr kN;rw [p.o,<-hT];split<;>rfl)
 rw [<-hT] at p Ak;clear hT;obtain ⟨mT,S⟩:=ai T.length;obtain ⟨yT,zT,eT⟩:∃a c,u31=.slice a mT c:=by rw [S];exact Ak.form
 subst eT;have aq:=ag S;have HU:=ag Ak;clear S Ak;have j:aL (fun g=>bf g w.heap.size x∧ah w g):=fun A B h m=>⟨h.1.a m,h.2.trans (m.mono h.2.size)⟩
 have Qh:aL (fun g=>dV g (w.heap.size+1)∧bB g w.heap.size (.slice yT mT zT) T):=fun A B h m=>⟨h.1.a m,h.2.a m⟩
 have j:=aL.and j Qh;go_wp2_with fail
 refine gH j (by kernel_rfl) ⟨⟨Ha.o,G9.o⟩,Qi.o,HU.o⟩ ?_
 intro b;refine dm [0,1,2,3,4] (fuel:=6) (a':=?Dc) (by kernel_rfl) (by kernel_rfl) (by kernel_rfl) ?qM b ?De
 case qM=>
  iterate 5 (apply Yl.cons rfl rfl;focus (rintro g ⟨⟨H,x2⟩,x9⟩;obtain ⟨V,W,X,Y,Z,k5⟩:=aV H;go_simp<;>with_reducible rfl);try simp only [az])
  exact Yl.nil
 refine qo j (i:=5) (v:=.int .i64 (fQ f)) rfl (by kernel_rfl) (by rfl) (by go_simp) b (vU x f _ (K.o.a b.1.2)) ?_
 clear b;intro ay b;try simp only [az]
 refine uT j (i:=6) (R:=fun v g=>∃u,v=.tuple #[.agg #[u],.int .i64 (gU f.2.2.1 s T (fQ f))]∧bJ g w.heap.size u (kN f.2.2.1 s T (fQ f))) rfl (by kernel_rfl) (by rfl) (by go_simp) b ((qyf _ _ _ f.2.2.1 s yT mT zT T (fQ f) _ (K.o.fl.a b.1.2) K.o.n4 HW.o.fl b.2.2.rd aq.o (by have:=ky.o.1;omega) ky.o.2).mono fun e wy ⟨v,h1,h2,h3⟩=>⟨_,h1,⟨v,rfl,h2.mono b.1.2.size⟩,h3⟩) (fun v A B ⟨u,h1,h2⟩ m=>⟨u,h1,h2.a m⟩) ?_
 intro aD ar l jK J;clear j b;have j:=l;have b:=J;clear l J;obtain ⟨u44,rfl,He⟩:=jK;obtain ⟨mV,am⟩:=ai ((kN f.2.2.1 s T (fQ f)).length);obtain ⟨yV,zV,eV⟩:∃a c,u44=.slice a mV c:=by rw [am];exact He.form
 subst eV;clear am;try simp only [az]
 refine dm [7,8] (fuel:=2) (a':=?Qk) (by kernel_rfl) (by kernel_rfl) (by kernel_rfl) ?Ao b ?Ql
 case Ao=>
  iterate 2 (apply Yl.cons rfl rfl;focus (rintro g ⟨⟨⟨H,x2⟩,x9⟩,_⟩;obtain ⟨V,W,X,Y,Z,k5⟩:=aV H;go_simp<;>with_reducible rfl);try simp only [az])
  exact Yl.nil
 have M:=b.1.2.1.cell;have N:=b.1.2.1.fz;obtain ⟨O,q,U⟩:=b.1.2.1.put (.slice yV mV zV);obtain ⟨y,F⟩:=b.1.2.1;have t:=ag (He.keptS q F (by decide) (by decide));have z:=ag (b.1.1.2.grown q b.1.1.2.size (by intro k P;cases P;omega));obtain ⟨G,r⟩:=ai (ar.setCell ⟨w.heap.size+1,0,none⟩ (.slice yV mV zV));rw [<-r] at O t z U;have bO:((bf G w.heap.size x∧ah w G)∧dV G (w.heap.size+1)∧bB G w.heap.size (.slice yT mT zT) T)∧∃u,(Value.tuple #[.agg #[.slice yV mV zV],.int .i64 (gU f.2.2.1 s T (fQ f))])=.tuple #[.agg #[u],.int .i64 (gU f.2.2.1 s T (fQ f))]∧bJ G w.heap.size u (kN f.2.2.1 s T (fQ f)):=⟨⟨⟨b.1.1.1.grown (r ▸ q) (by omega),z.o⟩,U,yO b.1.2.2 (r ▸ q) F (by decide)⟩,_,rfl,t.o⟩
 refine nL (i:=9) (w':=G) rfl (by kernel_rfl) (by rfl) (by rw [r];go_simp) bO ?_
 clear b;have b:=bO;try simp only [az]
 refine dm [10] (fuel:=0) (a':=?Qm) (by kernel_rfl) (by kernel_rfl) (by kernel_rfl) ?Ap b ?Qn
 case Ap=>
  iterate 1 (apply Yl.cons rfl rfl;focus (rintro g ⟨⟨⟨H,x2⟩,x9⟩,_⟩;obtain ⟨V,W,X,Y,Z,k5⟩:=aV H;go_simp<;>with_reducible rfl);try simp only [az])
  exact Yl.nil
 refine wpAnyH_done (by kernel_rfl) ?_ _
 refine NoPanic.normal ?_
 try simp only [az]
 clear b bO M N q F U He r j Qh;go_wp2;refine bodyPost_ret (v:=.tuple #[.agg #[.slice yV mV zV],.int .i64 (gU f.2.2.1 s T (fQ f))]) ?_ rfl ⟨_,by rw [p.o],by rw [L.o];exact t.o,z.o⟩
 simp [results,Tryz.results53,go_sem, *]
theorem wN {w:World} {base:Nat} {v:Value} {fs:List Fl} (h:bJ w base v fs) (hb:base<=w.heap.size) (n:fs.length<=1000000) (s:ak) (x:Value) (l:List Ex) (i:bB w base x l):
  ∃g c w',(Builtin.append_ #[28,28] 28 #[v,.slice (some ⟨w.heap.size,0,none⟩) 1 1]).run Tryz.prog (w.alloc (.cells #[.string (bs s),x] 98))=.ok (.slice (some ⟨g,0,none⟩) (fs.length+1) c) w'∧
   bJ w' base (.slice (some ⟨g,0,none⟩) (fs.length+1) c) (fs++[(s,l)])∧Below base w w'∧(w.alloc (.cells #[.string (bs s),x] 98)).grownBy w' v.ownBlock:=by
 obtain ⟨g,c,w',a,o,p⟩:=Eu h hb n s x l i;refine ⟨g,c,w',a,o,p, ?_⟩;obtain ⟨q,e,h⟩:=h;have r:q.length=fs.length:=by rw [<-e];simp
 obtain ⟨t,y,b,d,f⟩:=info_parts Tryz.infoFl;have j:ah w (w.alloc (.cells #[.string (bs s),x] 98)):=ae;obtain ⟨A,B,k,C,z,_⟩:=run_append_own (P:=Tryz.prog) _ base 28 28 98 t _ 2 40 Tryz.underlying28 y b d f rfl (by decide) _ _ _ (pW h.1 j) ⟨w.heap.size,0,none⟩ 1 1 [.string (bs s),x] rfl (Pg w #[.string (bs s),x] 98) (by
  intro u m;simp at m
  rcases m with rfl | rfl
  ·rfl
  ·exact i.ownForm) (by unfold maxLen;omega) (by omega) (aC hb j.size)
 rw [a] at k;injection k with _ e9;rw [e9];exact z
theorem bJ.own_lt {w:World} {base:Nat} {v:Value} {fs:List Fl} (h:bJ w base v fs):∀k,v.ownBlock=some k->k<w.heap.size:=by
 obtain ⟨b,_,h⟩:=h;intro k a;exact (h.1.lt k a).2
def BU (fs:List Fl):Prop:=fs.length<=1000∧∀f∈fs,f.2.length<=1000000
theorem qso {fs:List Fl} {B:Int} (h:bA fs B=0):BU fs:=by
 have a:=(zW h).2;exact ⟨by have:=a.1;omega,Wz a⟩
theorem qmm (a:au) (n c:Nat) (fs:List Fl) (w:World) (G:RdF w (.slice a n c) fs) (hn:n=fs.length) (C:BU fs):
  Calls Tryz.prog 107 #[.agg #[.slice a n c]] w fun e w'=>∃v,e=.returned (.agg #[v])∧bJ w' w.heap.size v fs∧ah w w':=by
 have hm:n<=1000:=by have:=C.1;omega
 have HR:=ag G;have X:=ag hn;have HL:=ag C.2;clear G hn C;obtain ⟨q,N⟩:=aj ((w.alloc (.cells #[.slice a n c] 30)).alloc (.cells #[.slice none 0 0] 30));have H:ah w (w.alloc (.cells #[.slice a n c] 30)):=ae;have I:ah w q:=by rw [<-N];exact H.alloc (by simp) _
 have eO:=ag (show Bq q w.heap.size 30 #[.slice a n c] by rw [<-N];exact (Bq.new w _ _).a (ae));have qc:=ag (show dV q (w.heap.size+1) by
  have:=dV.new (w.alloc (.cells #[.slice a n c] 30)) (.slice none 0 0)
  rw [<-N];simpa using this)
 have k0:q.cell? ⟨w.heap.size,0,none⟩=some (.slice a n c):=eO.o.cell 0;have J:=ag I;have jy:=ag (show q.heap.size=w.heap.size+2 by rw [<-N];simp);clear H I;go_enter Tryz.func107,Tryz.ntmps107;go_wp2;go_loopw [9,3] (fun i v wr=>∃k:Nat,k<=n∧i=.int .i64 k∧af (bJ wr q.heap.size v (fs.take k))∧ah q wr) (fun i _ _=>n - (intOf i).toNat)
 case atStart=>exact ⟨0,Nat.zero_le _,rfl,ag (by simpa using bJ.nil _ _),aB⟩
 case round=>
  obtain ⟨k,hk,rfl,d,g⟩:=hrel;by_cases ac:k<n
  ·have ab:(k:Int)<n:=by omega
   have D:k<fs.length:=by have:=X.o;omega
   have HT:=ag (uE fs k D);have Y:=ag (show (fs.take k).length=k by rw [List.length_take];omega);obtain ⟨r,t,K⟩:=d.o.form;rw [Y.o] at K;subst K;have F:=ag g;have Z:=bT J g;clear g;obtain ⟨b,ad,a2,c2,rfl,q0,O,q2⟩:=HR.o.atB Z.o k D;have HQ:=ag q2;have vI:=ag (HL.o _ (List.getElem_mem D));clear q2;obtain ⟨f,P⟩:=ai (fs[k]);rw [<-P] at q0 O HQ HT vI;clear P;obtain ⟨s,l⟩:=f;simp only at q0 O
   obtain ⟨m,A⟩:=ai l.length;have sO:=ag (show RdE w (.slice a2 m c2) l by rw [A];exact HQ.o);rw [<-A] at O;have gT:=ag A;clear A HQ;obtain ⟨x,Q⟩:=aj (wr.alloc (.cells #[.string (bs s),.slice a2 m c2] 98));have j:ah wr x:=by rw [<-Q];exact ae
   have Hg:=ag (show Bq x wr.heap.size 98 #[.string (bs s),.slice a2 m c2] by rw [<-Q];exact Bq.new _ _ _);have Qo:ah w x:=Z.o.trans (j.mono Z.o.size);go_wp2_with fail
   try rw [Q]
   have S:aL (fun p=>Bq p wr.heap.size 98 #[.string (bs s),.slice a2 m c2]∧ah q p):=fun q w2 h hb=>⟨h.1.a hb,h.2.trans (hb.mono h.2.size)⟩
   have E:(fun p=>Bq p wr.heap.size 98 #[.string (bs s),.slice a2 m c2]∧ah q p) x:=⟨Hg.o,F.o.trans (j.mono F.o.size)⟩;have aa:=ag (show Calls Tryz.prog 159 #[.slice a2 m c2] x.drew fun e w'=>∃v,e=.returned v∧∃r t,v=.slice r m t∧bB w' x.heap.size (.slice r m t) l∧ah x w' from (qr7 a2 m c2 l x.drew ((sO.o.a Qo).a aG) gT.o vI.o).mono fun e wy ⟨v,h1,h2,h3⟩=>by
    obtain ⟨a3,c3,e3⟩:=bB.form h2;rw [<-gT.o] at e3;subst e3;exact ⟨_,h1,a3,c3,rfl,h2,aB.drew.trans h3⟩)
   clear q0 O Q Qo;refine gH S (by kernel_rfl) E ?_
   intro z;refine dm [0,1,2,3,4] (fuel:=5) (a':=?vU) (by kernel_rfl) (by kernel_rfl) (by kernel_rfl) ?lD z ?vV
   case lD=>
    iterate 5 (apply Yl.cons rfl rfl;focus (rintro p ⟨B,x2⟩;(have e0:=B.cell 0);(have e1:=B.cell 1);simp only [List.getElem?_toArray,List.getElem?_cons_zero,List.getElem?_cons_succ] at e0 e1;go_simp<;>with_reducible rfl);try simp only [az])
    exact Yl.nil
   refine nZ (i:=5) (R:=fun v p=>∃r t,v=.slice r m t∧bB p x.heap.size (.slice r m t) l∧ah x p) rfl (by kernel_rfl) (by rfl) (by go_simp) aa.o ?_
   rintro v7 T ⟨a7,c7,rfl,jA,L⟩;have U:=S _ _ E L;refine ⟨U, ?_⟩;obtain ⟨g9,c9,V,u,bN,bI,bF⟩:=wN (d.o.a (j.trans (L.mono j.size))) (aC F.o.size (aC j.size L.size)) (by have:=Y.o;omega) s (.slice a7 m c7) l (jA.mono (aC F.o.size j.size));rw [Y.o] at u bN;have jT:=ag bN;have lh:=ag (show ah q V from (F.o.trans ((j.trans (L.mono j.size)).mono F.o.size)).trans bI);have M:=S _ (T.alloc (.cells #[.string (bs s),.slice a7 m c7] 98)) U (ae);have bO:(fun p=>Bq p wr.heap.size 98 #[.string (bs s),.slice a2 m c2]∧ah q p) V:=⟨(bF.block _ M.1.lt (fun e=>Nat.lt_irrefl _ (d.o.own_lt _ e.symm))).trans M.1,lh.o⟩;clear z bN bI bF;have z:=U;try simp only [az]
   refine dm [6] (fuel:=3) (a':=?Al) (by kernel_rfl) (by kernel_rfl) (by kernel_rfl) ?oD z ?Am
   case oD=>
    iterate 1 (apply Yl.cons rfl rfl;focus (rintro p ⟨B,x2⟩;(have e0:=B.cell 0);(have e1:=B.cell 1);simp only [List.getElem?_toArray,List.getElem?_cons_zero,List.getElem?_cons_succ] at e0 e1;go_simp<;>with_reducible rfl);try simp only [az])
    exact Yl.nil
   refine uS (i:=7) (v:=.slice (some ⟨T.heap.size,0,none⟩) 1 1) (w':=T.alloc (.cells #[.string (bs s),.slice a7 m c7] 98)) rfl (by kernel_rfl) (by rfl) (by go_simp) M ?_
   clear z;have z:=M;try simp only [az]
   refine uS (i:=8) (v:=.slice (some ⟨g9,0,none⟩) (k+1) c9) (w':=V) rfl (by kernel_rfl) (by rfl) (En (v:=.slice r k t) (y:=.slice (some ⟨T.heap.size,0,none⟩) 1 1) rfl rfl rfl u) bO ?_
   clear z;have z:=bO;try simp only [az]
   refine dm [9] (fuel:=0) (a':=?Qp) (by kernel_rfl) (by kernel_rfl) (by kernel_rfl) ?Aq z ?Qq
   case Aq=>
    iterate 1 (apply Yl.cons rfl rfl;focus (rintro p ⟨B,x2⟩;(have e0:=B.cell 0);(have e1:=B.cell 1);simp only [List.getElem?_toArray,List.getElem?_cons_zero,List.getElem?_cons_succ] at e0 e1;go_simp<;>with_reducible rfl);try simp only [az])
    exact Yl.nil
   refine wpAnyH_done (by kernel_rfl) ?_ _
   refine NoPanic.normal ?_
   try simp only [az]
   clear z bO M U E S u jA L j d;go_wp2;go_roundw
   case rel=>exact ⟨k+1,by omega,rfl,ag (by rw [HT.o];exact jT.o),lh.o⟩
   case measure=>simp only [intOf];omega
  ·have hd:decide ((k:Int)<n)=false:=aA (by omega)
   have e:k=fs.length:=by have:=X.o;omega
   rw [e,List.take_length] at d;clear e;obtain ⟨r,t,K⟩:=d.o.form;rw [<-X.o] at K;subst K;have W:=ag (qc.o.a g);have hc:=W.o.cell;have P:=W.o.fz;obtain ⟨z0,hg, -⟩:=W.o.put (.slice r n t);obtain ⟨y,hy⟩:=W.o;have dw:=ag ((d.o.keptS hg hy (by decide) (by decide)).mono J.o.size);have dC:=ag (show ah w _ from (J.o.trans (g.mono J.o.size)).grown hg (aC J.o.size g.size) (by intro k hk;cases hk;omega));clear hy hg;go_wp2;obtain ⟨V,aN⟩:=ai (wr.setCell ⟨w.heap.size+1,0,none⟩ (.slice r n t));rw [<-aN] at z0 dw dC ⊢;try simp only [Exit.inBlock,Exit.then]
   refine bodyPost_ret (v:=.agg #[.slice r n t]) ?_ rfl ⟨_,rfl,dw.o,dC.o⟩
   clear aN hc P;simp [results,Tryz.results107,go_sem, *]
end Go.Proofs.YthpammbgcidloaaGreat
