/-
  What the document's open of layer 8 does.
-/
import Derived.Test.YthpammbgcidloaaGreatRf3
set_option maxHeartbeats 4000000
set_option maxRecDepth 100000
namespace Go.Proofs.YthpammbgcidloaaGreat
open Go.RowKit
set_option linter.all false
def iI (g n p:Nat) (l:List (ak)):Int:=if (opn g n p l).2.2=0 then 6 else 0
theorem qajy {n p:Nat} {l:List (ak)}:opn 0 n p l=([],0,0):=Xi (by unfold dQ;rw [if_pos (.inl rfl)];decide)
theorem Sl {g p:Nat} {l:List (ak)}:opn g 0 p l=([],0,0):=Xi (by unfold dQ;rw [if_pos (.inr rfl)];decide)
theorem xg {g n p:Nat} {l:List (ak)} (h:cntF (l.headD [])=0):opn g n p l=([],0,0):=QI (by
 rw [h];intro e;have:=congrArg List.length e
 rw [BV,List.take_zero,List.length_nil] at this;have:=Qt (gY l).length
 omega)
theorem qaj1 {g n p:Nat} {l:List (ak)} {i:Nat} (f:i<l.length) (h:i<cntF (l.headD [])) (j:107<iT l[i]):opn g n p l=([],0,0):=QI (by
 intro e;have b:i<(l.take (cntF (l.headD []))).length:=by rw [List.length_take];omega
 have c:(l.take (cntF (l.headD [])))[i]=l[i]:=List.getElem_take;have d:i<(fZ (g,n,ji (l.headD []),p) (gY l)).length:=by rw [e];exact b
 have a:(fZ (g,n,ji (l.headD []),p) (gY l))[i]=l[i]:=by
  rw [<-c];simp only [e]
 rw [RV] at a;have:=congrArg iT a
 rw [qabv] at this;omega)
theorem qaj2 {g n p:Nat} {l:List (ak)} (a:cntF (l.headD [])<=l.length) (h:mQ (gY l).length≠cntF (l.headD [])):opn g n p l=([],0,0):=QI (by
 intro e;have:=congrArg List.length e
 rw [BV,List.length_take,Nat.min_eq_left a] at this;exact h this)
theorem H8 {g n p:Nat} {l:List (ak)} {i:Nat} (f:i<l.length) (h:i<cntF (l.headD [])) (c:∀b:i<(fZ (g,n,ji (l.headD []),p) (gY l)).length,(fZ (g,n,ji (l.headD []),p) (gY l))[i]≠l[i]):opn g n p l=([],0,0):=QI (by
 intro e;have b:i<(l.take (cntF (l.headD []))).length:=by rw [List.length_take];omega
 have d:(l.take (cntF (l.headD [])))[i]=l[i]:=List.getElem_take;have a:i<(fZ (g,n,ji (l.headD []),p) (gY l)).length:=by rw [e];exact b
 apply c a;rw [<-d];simp only [e])
theorem H9 (x:ak) (a:x.length=128):((x[18]'(by omega)).toNat:Int)+((x[19]'(by omega)).toNat:Int)*256=(cntF x:Nat):=by
 unfold cntF;have e:(x.drop 18).take 2=[x[18]'(by omega),x[19]'(by omega)]:=by
  rw [List.drop_eq_getElem_cons (by omega:18<x.length),List.drop_eq_getElem_cons (by omega:19<x.length)];rfl
 rw [e];simp only [fH];omega
theorem Ia (x:ak) (a:x.length=128):((x[20]'(by omega)).toNat:Nat)=iT x:=by
 unfold iT;simp [List.getD,a]
theorem Ns (x:ak):iT x<=107->ze x=(x.drop 21).take (iT x):=by
 intro h;unfold ze;rw [Nat.min_eq_left h]
theorem QV (A B:ak):((bs A).toList==(bs B).toList)=decide (A=B):=by
 rw [ByteArray.toList_eq,ByteArray.toList_eq,Lv,Lv,Bool.eq_iff_iff];simp
theorem Ib {w:World} {g o c:Nat} {x:ak} (h:Rd w (.slice (some ⟨g,o,none⟩) 128 c) x) (a:x.length=128) (j:Nat) (i:j<128):w.cell? ⟨g,o+j,none⟩=some (.int .u8 (x[j]'(by omega)).toNat):=by
 rw [<-a] at h;rcases h with ⟨rfl,_⟩ | ⟨b,d,k,e,l,m,f⟩
 ·simp at a
 ·cases e
  exact f j (by omega)
theorem qyp (d f r:Nat) (a:au) (n c:Nat) (l:List (ak)) (w:World) (hg:d<4294967296) (ar:f<4294967296) (aw:r<4294967296) (F:jC w (.slice a n c) l) (hl:l.length<=4096) (Z:∀b∈l,b.length=128):
  Calls Tryz.prog 81 #[.int .u32 d,.int .u32 f,.int .u32 r,.slice a n c] w fun e w'=>∃v,e=.returned (.tuple #[v,.int .u32 (opn d f r l).2.1,.int .i64 (opn d f r l).2.2,.int .i64 (iI d f r l)])∧aX w' w.heap.size v (opn d f r l).1∧ah w w':=by
 obtain ⟨hn,aa,bb⟩:=F.le;have HN:=ag hn;have HR:=ag F;have HA:=ag Z;have HG:=ag (show d<4294967296∧f<4294967296∧r<4294967296 from ⟨hg,ar,aw⟩);have lJ:n<=4096:=by omega
 clear bb Z hg ar aw hl;by_cases h0:n=0
 ·have m:=ag (show opn d f r l=([],0,0) by rw [List.length_eq_zero_iff.1 (show l.length=0 by omega)];exact Xh _ _ _)
  have ax:((n:Int)==0)=true:=by simp [h0]
  clear hn aa F h0;go_enter Tryz.func81,Tryz.ntmps81;go_wp2;refine bodyPost_ret (v:=.tuple #[.slice none 0 0,.int .u32 0,.int .i64 0,.int .i64 6]) ?_ rfl ⟨.slice none 0 0, ?_, ?_,aB⟩
  ·simp [results,Tryz.results81,go_sem]
  ·rw [show iI d f r l=6 by unfold iI;rw [m.o];rfl,m.o];rfl
  ·rw [m.o];exact World.ownsRow_nil _ _ _ _
 have ax:((n:Int)==0)=false:=by simpa using (by omega:¬(n:Int)=0)
 by_cases g0:d=0
 ·have m:=ag (show opn d f r l=([],0,0) by rw [g0];exact qajy)
  have ay:((d:Int)==0)=true:=by simp [g0]
  clear hn aa F h0 g0;go_enter Tryz.func81,Tryz.ntmps81;go_wp2;refine bodyPost_ret (v:=.tuple #[.slice none 0 0,.int .u32 0,.int .i64 0,.int .i64 6]) ?_ rfl ⟨.slice none 0 0, ?_, ?_,aB⟩
  ·simp [results,Tryz.results81,go_sem]
  ·rw [show iI d f r l=6 by unfold iI;rw [m.o];rfl,m.o];rfl
  ·rw [m.o];exact World.ownsRow_nil _ _ _ _
 have ay:((d:Int)==0)=false:=by simpa using (by omega:¬(d:Int)=0)
 by_cases n0:f=0
 ·have m:=ag (show opn d f r l=([],0,0) by rw [n0];exact Sl)
  have aD:((f:Int)==0)=true:=by simp [n0]
  clear hn aa F h0 g0 n0;go_enter Tryz.func81,Tryz.ntmps81;go_wp2;refine bodyPost_ret (v:=.tuple #[.slice none 0 0,.int .u32 0,.int .i64 0,.int .i64 6]) ?_ rfl ⟨.slice none 0 0, ?_, ?_,aB⟩
  ·simp [results,Tryz.results81,go_sem]
  ·rw [show iI d f r l=6 by unfold iI;rw [m.o];rfl,m.o];rfl
  ·rw [m.o];exact World.ownsRow_nil _ _ _ _
 have aD:((f:Int)==0)=false:=by simpa using (by omega:¬(f:Int)=0)
 have N:0<l.length:=by omega
 obtain ⟨b,J,y,z,rfl,O,D⟩:=F.at 0 N;obtain ⟨G,X⟩:=ai (l[0]);have C:=ag (show G.length=128 by rw [X];exact HA.o _ (List.getElem_mem N));have QK:=ag (show l.headD []=G by rw [X];exact qwz l N);rw [<-X,C.o] at O D;obtain ⟨g,o9,rfl, -⟩:=yY D (by intro e;have:=C.o;rw [e] at this;simp at this);have lI:w.cell? ⟨b,J,none⟩=some (.slice (some ⟨g,o9,none⟩) 128 z):=O;obtain ⟨a2,c2,L,T⟩:=qajx D C.o 8 (by omega);have jI:=Mh a2 4 c2 ((G.drop 8).take 4) w (by rw [List.length_take,List.length_drop,C.o];decide) (T w aB);rw [show fH ((G.drop 8).take 4)=ji G from rfl] at jI;have Ev:=ag D;have QW:=ag (H9 G C.o);have xZ:=ag (Qw G);obtain ⟨K,M⟩:=ai (cntF G);obtain ⟨s,hs⟩:=ai (ji G);have V:=ag (show cntF (l.headD [])=K by rw [QK.o,M]);have nW:=ag (show ji (l.headD [])=s by rw [QK.o,hs]);have PP:=ag (show K<65536 by rw [M];exact Qx _);rw [<-hs] at jI xZ;rw [<-M] at QW;obtain ⟨u8,aE⟩:∃u,u=G[18]'(by have:=C.o;omega):=⟨_,rfl⟩;obtain ⟨u9,aF⟩:∃u,u=G[19]'(by have:=C.o;omega):=⟨_,rfl⟩;have ab:=ag (fun (E:World) (h:Rd E (.slice (some ⟨g,o9,none⟩) 128 z) G)=>Ib h C.o 18 (by omega));have ac:=ag (fun (E:World) (h:Rd E (.slice (some ⟨g,o9,none⟩) 128 z) G)=>Ib h C.o 19 (by omega));rw [<-aE] at ab QW;rw [<-aF] at ac QW
 have bv:0<n:=by omega
 have bm:(0:Int)<n:=by omega
 have aH:u8.toNat<256:=UInt8.toNat_lt _;have aJ:u9.toNat<256:=UInt8.toNat_lt _;clear hn F h0 X O D g0 n0 M hs aE aF T;go_enter Tryz.func81,Tryz.ntmps81;go_wp2_with (first | (refine iY rfl (.tmp 33) (.const (.int .i64 8)) (.const (.int .i64 12)) 22 (by kernel_rfl) rfl rfl rfl rfl L ?_) | fail)
 refine jI.mono ?_
 rintro e w1 ⟨rfl,b1⟩;have aK:=ag b1;have aM:w1.cell? ⟨b,J,none⟩=some (.slice (some ⟨g,o9,none⟩) 128 z):=aR _ _ _ _ lI b1;have aO:=Ev.o.a b1;clear jI b1 L lI ax ay aD;have M:aL (fun E=>E.cell? ⟨b,J,none⟩=some (.slice (some ⟨g,o9,none⟩) 128 z)∧Rd E (.slice (some ⟨g,o9,none⟩) 128 z) G∧ah w E):=(aR _ _).and ((LA _ _).and (jW w));have H:w1.cell? ⟨b,J,none⟩=some (.slice (some ⟨g,o9,none⟩) 128 z)∧Rd w1 (.slice (some ⟨g,o9,none⟩) 128 z) G∧ah w w1:=⟨aM,aO,aK.o⟩;clear aM aO;have bc:IntKind.i64.wrap (u8.toNat:Int)=u8.toNat:=by rw [IntKind.wrap_i64];omega
 have aN:IntKind.i64.wrap (u9.toNat:Int)=u9.toNat:=by rw [IntKind.wrap_i64];omega
 have Xd:IntKind.i64.wrap ((u9.toNat:Int)*256)=(u9.toNat:Int)*256:=by rw [IntKind.wrap_i64];omega
 have bd:IntKind.i64.wrap ((u8.toNat:Int)+(u9.toNat:Int)*256)=(u8.toNat:Int)+(u9.toNat:Int)*256:=by rw [IntKind.wrap_i64];omega
 go_wp2_with fail
 refine gH M (by kernel_rfl) H ?_
 clear H;intro W;generalize w1.drew=wd at *;refine dm [0,1,2,3,4,5,6,7,8,9,10,11,12,13,14] (fuel:=0) (a':=?vU) (by kernel_rfl) (by kernel_rfl) (by kernel_rfl) ?lD W ?vV
 case lD=>
  iterate 15 (apply Yl.cons rfl (by kernel_rfl);focus (rintro E ⟨x1,x2,_⟩;have d8:=ab.o E x2;have d9:=ac.o E x2;clear x2;go_simp<;>with_reducible rfl);try simp only [az])
  exact Yl.nil
 refine wpAnyH_done (by kernel_rfl) ?_ _
 refine NoPanic.normal ?_
 obtain ⟨-, -,Y⟩:=W;try simp only [az]
 rw [QW.o];clear M bc aN Xd bd aH aJ QW ab ac aK;by_cases be:K<1
 ·have QX:(K:Int)<1:=by omega
  have m:=ag (xg (g:=d) (n:=f) (p:=r) (l:=l) (by rw [V.o];omega));go_wp2;refine bodyPost_ret (v:=.tuple #[.slice none 0 0,.int .u32 0,.int .i64 0,.int .i64 6]) ?_ rfl ⟨.slice none 0 0, ?_, ?_,Y⟩
  ·simp [results,Tryz.results81,go_sem]
  ·rw [show iI d f r l=6 by unfold iI;rw [m.o];rfl,m.o];rfl
  ·rw [m.o];exact World.ownsRow_nil _ _ _ _
 have QX:decide ((K:Int)<1)=false:=aA (by omega);by_cases ad:n<K
 ·have U:(n:Int)<K:=by omega
  have m:=ag (qsu (g:=d) (n:=f) (p:=r) (show l.length<cntF (l.headD []) by rw [V.o,<-HN.o];exact ad));go_wp2;refine bodyPost_ret (v:=.tuple #[.slice none 0 0,.int .u32 0,.int .i64 0,.int .i64 6]) ?_ rfl ⟨.slice none 0 0, ?_, ?_,Y⟩
  ·simp [results,Tryz.results81,go_sem]
  ·rw [show iI d f r l=6 by unfold iI;rw [m.o];rfl,m.o];rfl
  ·rw [m.o];exact World.ownsRow_nil _ _ _ _
 have U:decide ((n:Int)<K)=false:=aA (by omega);have aP:K<=n:=by omega
 go_wp2;clear be QX ad U;go_loopw [14,15] (fun rv i wr=>∃k:Nat,k<=K∧i=.int .i64 k∧∃av nv cv,rv=.slice av nv cv∧af (aX wr w.heap.size (.slice av nv cv) (rW (l.take k)))∧ah w wr) (fun _ i _=>K - (intOf i).toNat)
 case atStart=>exact ⟨0,Nat.zero_le _,rfl,_,_,_,rfl,ag (World.ownsRow_nil _ _ _ _),Y⟩
 case round=>
  clear Y;obtain ⟨k,hk,rfl,av,nv,cv,rfl,ho,t⟩:=hrel;by_cases al:k<K
  ·have aS:(k:Int)<K:=by omega
   have I:k<l.length:=by have:=HN.o;omega
   have ad:k<n:=by omega
   have U:(k:Int)<n:=by omega
   obtain ⟨b',bn,y,z',e',O,D⟩:=(HR.o.a t).at k I;cases e';have bR:(l[k]).length=128:=HA.o _ (List.getElem_mem I);have jy:=ag (fun (h2:107<iT l[k])=>qaj1 (g:=d) (n:=f) (p:=r) I (by rw [V.o];exact al) h2);have aT:=ag (qov l k I);obtain ⟨x,hx⟩:=ai (l[k]);rw [<-hx] at O D bR jy aT;rw [bR] at O D;have HX:=ag bR;obtain ⟨g',o',rfl, -⟩:=yY D (by intro e;have:=HX.o;rw [e] at this;simp at this);have q2:=Ib D bR 20 (by omega);have a0:=Ia x bR;rw [a0] at q2;have HP:=ag (Ns x);obtain ⟨S,am⟩:=ai (iT x);rw [<-am] at q2 jy HP;have bg:=ag (show S<256 by rw [am];unfold iT;exact UInt8.toNat_lt _);have bh:=bg.o;have bw:IntKind.i64.wrap (S:Int)=S:=by rw [IntKind.wrap_i64];omega
   clear am a0 hx bR;by_cases a1:107<S
   ·have a4:(107:Int)<S:=by omega
    have m:=ag (jy.o a1);clear D;go_wp2;refine bodyPost_ret (v:=.tuple #[.slice none 0 0,.int .u32 0,.int .i64 0,.int .i64 6]) ?_ rfl ⟨.slice none 0 0, ?_, ?_,t⟩
    ·simp [results,Tryz.results81,go_sem]
    ·rw [show iI d f r l=6 by unfold iI;rw [m.o];rfl,m.o];rfl
    ·rw [m.o];exact World.ownsRow_nil _ _ _ _
   have a4:decide ((107:Int)<S)=false:=aA (by omega);obtain ⟨a3,c3,L,T⟩:=BD (by rw [HX.o];exact D:Rd wr (.slice (some ⟨g',o',none⟩) x.length z') x) 21 (21+S) (by omega) (by rw [HX.o];omega);have Ic:=T wr aB;rw [show 21+S - 21=S by omega] at L Ic;rw [List.drop_take,show 21+S - 21=S by omega,<-HP.o (by omega)] at Ic;rw [HX.o,show ((21+S:Nat):Int)=21+(S:Int) by omega] at L;obtain ⟨y9,n9,c9,w9,rP,BF,an,b9⟩:=Dh ho.o t.size Ic (by
    have h1:=qms (l.take k);have h2:=Qf x;rw [List.length_take] at h1;omega)
   rw [<-aT.o] at an;have jT:=ag an;have lh:=ag (show ah w w9 from t.trans b9);have bo:IntKind.i64.wrap (21+(S:Int))=21+(S:Int):=by rw [IntKind.wrap_i64];omega
   clear an b9 ho t T Ic D a1;go_wp2_with (first | (refine iY rfl (.tmp 76) (.const (.int .i64 21)) (.tmp 78) 22 (by kernel_rfl) rfl rfl rfl rfl L ?_) | (at_builtin;refine zh rfl (.tmp 72) (.tmp 79) 22 rfl rfl rfl rfl BF ?_))
   go_roundw
   case rel=>exact ⟨k+1,by omega,by go_num,_,_,_,rfl,jT,lh.o⟩
   case measure=>simp only [intOf];omega
  ·have hd:decide ((k:Int)<K)=false:=aA (by omega)
   obtain rfl:k=K:=by omega
   obtain ⟨R,hR⟩:=ai (rW (l.take k));have wV:=ag (show gY l=R by unfold gY;rw [V.o,hR]);rw [<-hR] at ho;have HO:=ag ho.o;clear ho hR;go_wp2_with fail
   refine (qmv (d,f,s,r) av nv cv R _ ⟨HG.o.1,HG.o.2.1,xZ.o,HG.o.2.2⟩ HO.o.rd).mono ?_
   rintro e w5 ⟨v5,rfl,xJ,ao⟩;have jh:ah w w5:=t.trans (ao.mono t.size);have sW:=ag xJ;have bi:=ag (HO.o.a ao);clear xJ ao HO hd t;by_cases he:dQ (d,f,s,r) R=0
   ·have qx:=ag he
    rw [he];rw [Xe he] at sW;obtain ⟨a5,c5,GR⟩:=sW.o.form;subst GR;have jN:=ag (BV (d,f,s,r) R);obtain ⟨Q,hQ⟩:=ai (fZ (d,f,s,r) R);have HQ:=ag hQ;rw [<-hQ] at sW jN ⊢;clear he hQ;obtain ⟨q,hq⟩:=ai Q.length;rw [<-hq] at sW jN ⊢;have Mo:=ag hq;clear hq;by_cases a6:q=k
    ·subst a6
     have bj:=ag sW.o.rdL;have bz:((q:Int) !=q)=false:=by simp
     go_wp2;go_loopw [19] (fun i wr=>∃j:Nat,j<=q∧i=.int .i64 j∧af (Q.take j=l.take j)∧af (ah w5 wr)) (fun i _=>q - (intOf i).toNat)
     case atStart=>exact ⟨0,Nat.zero_le _,rfl,ag rfl,ag aB⟩
     case round=>
      obtain ⟨j,hj,rfl,hE,hb⟩:=hrel;have ap:ah w wr:=jh.trans (hb.o.mono jh.size);by_cases al:j<q
      ·have aS:(j:Int)<q:=by omega
       have a7:j<Q.length:=by have:=Mo.o;omega
       have aq:j<l.length:=by have:=HN.o;omega
       have bC:j<n:=by omega
       have bp:(j:Int)<n:=by omega
       obtain ⟨b1,o1,y1,z1,e1,O,D⟩:=(bj.o.a hb.o).at j a7;obtain ⟨b2,o2,y2,z2,e2,r0,r1⟩:=(HR.o.a ap).at j aq;subst e1;cases e2;have mF:=ag (show Q[j]=l[j]->Q.take (j+1)=l.take (j+1) from fun e=>by rw [List.take_succ_eq_append_getElem a7,List.take_succ_eq_append_getElem aq,hE.o,e]);have yS:=ag (show Q[j]≠l[j]->opn d f r l=([],0,0) from fun e=>H8 aq (by rw [V.o];exact al) (by
        intro hl e3;have bk:fZ (d,f,ji (l.headD []),r) (gY l)=Q:=by rw [nW.o,wV.o,HQ.o]
        have h6:Q[j]=(fZ (d,f,ji (l.headD []),r) (gY l))[j]:=by simp only [bk]
        exact e (h6.trans e3)))
       obtain ⟨A,hA⟩:=ai (Q[j]);obtain ⟨B,hB⟩:=ai (l[j]);rw [<-hA] at O D mF yS;rw [<-hB] at r0 r1 mF yS;clear hA hB hE;obtain ⟨nA,a8⟩:=ai A.length;obtain ⟨nB,a9⟩:=ai B.length;rw [<-a8] at O D;rw [<-a9] at r0 r1;clear a8 a9;have M:aL (fun E=>E.cell? ⟨b1,o1+j,none⟩=some (.slice y1 nA z1)∧E.cell? ⟨b,J+j,none⟩=some (.slice y2 nB z2)∧Rd E (.slice y1 nA z1) A∧Rd E (.slice y2 nB z2) B∧ah w5 E):=(aR _ _).and ((aR _ _).and ((LA _ _).and ((LA _ _).and (jW w5))));have H:wr.cell? ⟨b1,o1+j,none⟩=some (.slice y1 nA z1)∧wr.cell? ⟨b,J+j,none⟩=some (.slice y2 nB z2)∧Rd wr (.slice y1 nA z1) A∧Rd wr (.slice y2 nB z2) B∧ah w5 wr:=⟨O,r0,D,r1,hb.o⟩;have ba:=QV A B;clear O r0 D r1 hb ap;by_cases ML:A=B
       ·have HT:=ag (mF.o ML)
        rw [decide_eq_true ML] at ba;clear ML;go_wp2_with fail
        refine gH M (by kernel_rfl) H ?_
        clear H;intro W;generalize wr.drew=wd at *;refine dm [0,1,2,3,4,5,6,7,8,9,10] (fuel:=0) (a':=?Dc) (by kernel_rfl) (by kernel_rfl) (by kernel_rfl) ?qM W ?De
        case qM=>
         iterate 11 (apply Yl.cons rfl (by kernel_rfl);focus (rintro E ⟨x1,x2,x3,x4,_⟩;have d1:=ik (P:=Tryz.prog) _ _ _ Tryz.underlying22 Tryz.underlying5 Tryz.underlying9 x3;have d2:=ik (P:=Tryz.prog) _ _ _ Tryz.underlying22 Tryz.underlying5 Tryz.underlying9 x4;clear x3 x4;go_simp<;>with_reducible rfl);try simp only [az])
         exact Yl.nil
        refine wpAnyH_done (by kernel_rfl) ?_ _
        refine NoPanic.normal ?_
        try simp only [az]
        have ll:=ag W.2.2.2.2;clear W M;go_wp2;go_roundw
        case rel=>exact ⟨j+1,by omega,by go_num,HT,ll⟩
        case measure=>simp only [intOf];omega
       ·have m:=ag (yS.o ML)
        rw [decide_eq_false ML] at ba;clear ML;go_wp2_with fail
        refine gH M (by kernel_rfl) H ?_
        clear H;intro W;generalize wr.drew=wd at *;refine dm [0,1,2,3,4,5,6,7,8,9,10] (fuel:=0) (a':=?qca1) (by kernel_rfl) (by kernel_rfl) (by kernel_rfl) ?Ie W ?qcn1
        case Ie=>
         iterate 11 (apply Yl.cons rfl (by kernel_rfl);focus (rintro E ⟨x1,x2,x3,x4,_⟩;have d1:=ik (P:=Tryz.prog) _ _ _ Tryz.underlying22 Tryz.underlying5 Tryz.underlying9 x3;have d2:=ik (P:=Tryz.prog) _ _ _ Tryz.underlying22 Tryz.underlying5 Tryz.underlying9 x4;clear x3 x4;go_simp<;>with_reducible rfl);try simp only [az])
         exact Yl.nil
        refine wpAnyH_done (by kernel_rfl) ?_ _
        refine NoPanic.normal ?_
        try simp only [az]
        have ll:=ag (jh.trans (W.2.2.2.2.mono jh.size));clear W M;go_wp2;refine bodyPost_ret (v:=.tuple #[.slice none 0 0,.int .u32 0,.int .i64 0,.int .i64 6]) ?_ rfl ⟨.slice none 0 0, ?_, ?_,ll.o⟩
        ·simp [results,Tryz.results81,go_sem]
        ·rw [show iI d f r l=6 by unfold iI;rw [m.o];rfl,m.o];rfl
        ·rw [m.o];exact World.ownsRow_nil _ _ _ _
      ·have hd:decide ((j:Int)<q)=false:=aA (by omega)
       obtain rfl:j=q:=by omega
       have yf:=ag (QJ (g:=d) (n:=f) (p:=r) (l:=l) (by intro e;rw [e] at N;simp at N) (by rw [V.o,<-HN.o];exact aP) (by rw [nW.o,wV.o];exact qx.o) (by
        rw [nW.o,wV.o,V.o,<-HQ.o];have:=hE.o
        rwa [List.take_of_length_le (by rw [<-Mo.o];exact Nat.le_refl _)] at this))
       rw [V.o,nW.o,wV.o] at yf;have dw:=ag (bi.o.a hb.o);have bl:j≠0:=by have:=Qt R.length;rw [jN.o];omega
       clear hE hb;go_wp2;refine bodyPost_ret (v:=.tuple #[.slice av nv cv,.int .u32 s,.int .i64 j,.int .i64 0]) ?_ rfl ⟨.slice av nv cv, ?_, ?_,ap⟩
       ·simp [results,Tryz.results81,go_sem]
       ·rw [show iI d f r l=0 by unfold iI;rw [yf.o];exact if_neg bl,yf.o]
       ·rw [yf.o];exact dw.o
    ·have m:=ag (qaj2 (g:=d) (n:=f) (p:=r) (l:=l) (by rw [V.o,<-HN.o];exact aP) (by rw [wV.o,V.o,<-jN.o];exact a6))
     have br:((q:Int) !=k)=true:=by simpa using (by omega:¬(q:Int)=k)
     have bt:((q:Int)==k)=false:=by simpa using (by omega:¬(q:Int)=k)
     go_wp2;refine bodyPost_ret (v:=.tuple #[.slice none 0 0,.int .u32 0,.int .i64 0,.int .i64 6]) ?_ rfl ⟨.slice none 0 0, ?_, ?_,jh⟩
     ·simp [results,Tryz.results81,go_sem]
     ·rw [show iI d f r l=6 by unfold iI;rw [m.o];rfl,m.o];rfl
     ·rw [m.o];exact World.ownsRow_nil _ _ _ _
   ·have m:=ag (Xi (g:=d) (n:=f) (p:=r) (l:=l) (by rw [nW.o,wV.o];exact he))
    obtain ⟨z9,PK⟩:=ai (dQ (d,f,s,r) R);rw [<-PK] at he ⊢;have bD:(z9==0)=false:=by simpa using he
    rw [Hr (by rw [<-PK];exact he)] at sW;obtain ⟨a5,c5,GR⟩:=sW.o.form;subst GR;clear PK;go_wp2;refine bodyPost_ret (v:=.tuple #[.slice none 0 0,.int .u32 0,.int .i64 0,.int .i64 6]) ?_ rfl ⟨.slice none 0 0, ?_, ?_,jh⟩
    ·simp [results,Tryz.results81,go_sem]
    ·rw [show iI d f r l=6 by unfold iI;rw [m.o];rfl,m.o];rfl
    ·rw [m.o];exact World.ownsRow_nil _ _ _ _
end Go.Proofs.YthpammbgcidloaaGreat
