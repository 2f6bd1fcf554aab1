/-
  The document's Read of layer 17.
-/
import Derived.Test.YtmeaiocohalphaaGreatDoorRv3
set_option maxHeartbeats 8000000
set_option maxRecDepth 100000
namespace Go.Proofs.YtmeaiocohalphaaGreatDoor
open Go.RowKit
set_option linter.all false
variable {A Q k m:Nat}{o r s:az}{bad d e f:Bool}{a b c w0:World}{S:dL}{v:Value}
/-! ### the zb reader beside the words -/
def su (r:az) (bad:Bool):lK:=if bad then none else some r
theorem qmw(r:az):su r false=some r:=rfl
theorem YT{d:az}{a:Bool}(h:lH k r bad m d a):(dU k (su r bad)).2=su d a∧(a=false->(dU k (su r bad)).1=m)∧(bad=true->a=true):=by
 cases bad with
 |true=>
  have e:a=true:=by
   rcases h with⟨_,_,_,_,h⟩|⟨_,_,_,h⟩
   ·exact h
   exact h
  subst e;exact⟨rfl,(fun h=>by cases h),fun _=>rfl⟩
 |false=>
  rw[qmw];rcases h with⟨j,c,i,g,rfl⟩|⟨c,i,g,rfl⟩
  ·have e:jO k r=some (m,d):=by
    cases e9:jO k r with
    |none=>
     rcases qnl e9 with b|⟨x,y,b,f⟩
     ·rw[c]at b;cases b
     rw[c]at b;cases b;omega
    |some p=>
     obtain⟨x,q⟩:=p;obtain⟨y,b,_,f⟩:=P7 e9;rw[c]at b;cases b;rw[f,g]
   rw[Du e,qmw];exact⟨rfl,(fun _=>rfl),fun h=>by cases h⟩
  have e:jO k r=none:=by
   cases e9:jO k r with
   |none=>rfl
   |some p=>
    obtain⟨x,q⟩:=p;obtain⟨y,b,f,_⟩:=P7 e9;have:=c _ _ b;omega
  rw[Rv e];exact⟨rfl,(fun h=>by cases h),fun _=>rfl⟩
theorem xm{c:az}{a:Bool}(h:pu r bad s c a):(ik (su r bad)).2=su c a∧(a=false->(ik (su r bad)).1=s)∧(bad=true->a=true):=by
 cases bad with
 |true=>
  have e:a=true:=by
   rcases h with⟨_,h⟩|⟨_,_,_,h⟩
   ·exact h
   exact h
  subst e;exact⟨rfl,(fun h=>by cases h),fun _=>rfl⟩
 |false=>
  rw[qmw];rcases h with⟨b,rfl⟩|⟨b,_,_,rfl⟩
  ·rw[XH b]
   exact⟨rfl,(fun _=>rfl),fun h=>by cases h⟩
  rw[Us b]
  exact⟨rfl,(fun h=>by cases h),fun _=>rfl⟩
theorem Oh{k l m n p q:az}{t u:Nat}{b a c:Bool}(v:pu r b p k a)(w:lH 16384 k a t l c)(x:lH 65536 l c u m d)(y:pu m d q n e)(z:pu n e s o f):
  (mo (su r b)).2=su o f∧(f=false->(mo (su r b)).1=(p,(t:Int),(u:Int),q,s)):=by
 obtain⟨a1,a2,a3⟩:=xm v;obtain⟨c1,c2,c3⟩:=YT w;obtain⟨d1,d2,A⟩:=YT x;obtain⟨e1,B,C⟩:=xm y;obtain⟨D,E,F⟩:=xm z;unfold mo;rw[a1,c1,d1,e1,D];refine⟨rfl,fun h=>?_⟩;have g:e=false:=by cases e with|false=>rfl|true=>rw[F rfl]at h;cases h
 have i:d=false:=by cases d with|false=>rfl|true=>rw[C rfl]at g;cases g
 have j:c=false:=by cases c with|false=>rfl|true=>rw[A rfl]at i;cases i
 have G:a=false:=by cases a with|false=>rfl|true=>rw[c3 rfl]at j;cases j
 rw[a2 G,c2 j,d2 i,B g,E h]
theorem Oi{b i j k l:az}{L:List (List dn)}{n:Nat}{a c:Bool}(o:(dA 4 (some b)).2=su r a∧(a=false->(dA 4 (some b)).1=L))(p:lH 1099511627776 r a m i c)(q:lH 1099511627776 i c n j d)(s:pu j d l k e):
  (jh (some b)).2=su k e∧(e=false->(jh (some b)).1=(L,(m:Int),(n:Int),l)):=by
 obtain⟨c1,c2,c3⟩:=YT p;obtain⟨d1,d2,t⟩:=YT q;obtain⟨e1,u,v⟩:=xm s;unfold jh;rw[o.1,c1,d1,e1];refine⟨rfl,fun h=>?_⟩;have f:d=false:=by cases d with|false=>rfl|true=>rw[v rfl]at h;cases h
 have g:c=false:=by cases c with|false=>rfl|true=>rw[t rfl]at f;cases f
 have w:a=false:=by cases a with|false=>rfl|true=>rw[c3 rfl]at g;cases g
 rw[o.2 w,c2 g,d2 f,u h]
def QY (b:az) (k:Nat) (S:dL) (r:az) (bad:Bool):Prop:=S.length=k∧(aT S).flatten.length<=32*k∧(dA k (some b)).2=su r bad∧(bad=false->(dA k (some b)).1=aT S)
theorem QY.all{b:az}(h:QY b k S r bad)(c:k<=4)(a:k=4∨bad=true):(dA 4 (some b)).2=su r bad∧(bad=false->(dA 4 (some b)).1=aT S):=by
 rcases a with rfl|rfl
 ·exact h.2.2
 have e:=qrh (n:=k) (s:=some b) h.2.2.1 (4-k);rw[show k+(4-k)=4 by omega]at e;exact⟨e,fun h=>by cases h⟩
def We (st:lK) (j:Nat) (l:List dn) (r:az) (bad:Bool):Prop:=l.length=j∧(fV j st).2=su r bad∧(bad=false->(fV j st).1=l)
theorem QY.next{b:az}{j:Nat}{d:az}{a:Bool}{l:List dn}(h:QY b k S r false)(p:lH 32 r false m d f)(hl:We (su d f) j l o a)(y:j<=m)(q:j=m∨a=true):QY b (k+1) (S++[(v,l)]) o a:=by
 obtain⟨t,z,u,w⟩:=h;obtain⟨n1,n2,_⟩:=YT p;obtain⟨A,g,x⟩:=hl;have B:=p.le.1;refine⟨by simp[t], ?_, ?_⟩
 ·have e:aT (S++[(v,l)])=aT S++[l]:=by simp[aT]
  rw[e,List.flatten_append,Xa0];simp only[List.flatten_cons,List.flatten_nil,Xc8];omega
 rw[dA,u,n1]
 have e:aT (S++[(v,l)])=aT S++[l]:=by simp[aT]
 rw[e,w rfl];cases f with
 |true=>
  have c:(fV j (su d true)).2=none:=qm j;rw[g]at c;have i:a=true:=by cases a with|true=>rfl|false=>cases c
  subst i;exact⟨qm _,fun h=>by cases h⟩
 |false=>
  rw[n2 rfl];rcases q with rfl|rfl
  ·exact⟨g,fun h=>by rw[x h]⟩
  have c:=qrg (n:=j) (s:=su d false) g (m-j);rw[show j+(m-j)=m by omega]at c;exact⟨c,fun h=>by cases h⟩
theorem jW.trans9(h:jW Q a b)(k:jW Q b c):jW Q a c:=⟨aG h.1 k.1,fun i hi d=>(k.2 i (Xb8 hi h.1) d).trans (h.2 i hi d)⟩
theorem jW.low9{B:Nat}(h:jW Q a b)(k:Below B b c)(e:a.heap.size<=B):jW Q a c:=⟨aG h.1 k.size,fun i hi d=>(k.block i (by omega)).trans (h.2 i hi d)⟩
theorem dM.loq9{base:Nat}{R:dL}(h:dM w0 base v R)(b:Q<base)(hl:jW Q w0 a):dM a base v R:=⟨cO.loq h.1 b hl,fun p c=>cO.loq (h.2 p c) b hl⟩
theorem aQ.loq9{nx sq:Int}{lg:az}(h:aQ w0 A v nx sq lg)(b:A≠Q)(hl:jW Q w0 a):aQ a A v nx sq lg:=(hl.2 A (aQ.lt h) b).trans h
theorem Bx.loq9{t:TypeId}{cs:Array Value}(h:Bx w0 A t cs)(b:A≠Q)(hl:jW Q w0 a):Bx a A t cs:=(hl.2 A (Bx.lt h) b).trans h
theorem qaih(a:aA)(n c:Nat)(b:az)(w:World)(ad:Rd w (.slice a n c) b)(hn:n=b.length):
  Calls Tryz.prog 66 #[.slice a n c] w fun e w'=>vL w.heap.size (eD b) (dx b) e w'∧ah w w':=by
 obtain⟨w1,C⟩:∃w1,w1=w.alloc (.cells #[.slice none 0 0,.int .i64 0,.int .i64 0,.string {data:=#[]}] 36):=⟨_,rfl⟩
 have ai:ah w w1:=by rw[C];exact ae
 have hs1:w1.heap.size=w.heap.size+1:=by rw[C];simp
 have ax:=ag (show aQ w1 w.heap.size (.slice none 0 0) 0 0 []by rw[C];exact aQ.new w _ 0 0 []);have aY:=ag ai;by_cases hl:16384<n
 ·have bC:(16384:Int)<n:=by omega
  have I:=ag (show dx b=3∧eD b=fo by
   have e:dx b=3:=by unfold dx;rw[if_pos (by omega)]
   exact⟨e,by unfold eD;rw[e,if_neg (by decide)]⟩)
  clear ai hs1 ad hn;go_enter Tryz.func66,Tryz.ntmps66;go_wp2;rw[<-C];clear C;obtain⟨J,K,L,M⟩:=ax.o.cells;refine bodyPost_ret (v:=.tuple #[.agg #[.slice none 0 0,.int .i64 0,.int .i64 0,.string {data:=#[]}],.int .i64 3]) ?_ rfl ⟨by rw[I.o.1,I.o.2];exact⟨_,[],rfl,dM.nil _ _,rfl⟩,aY.o⟩
  try simp only[show bs ([]:az)={data:=#[]}from rfl,Int.natCast_zero,Int.ofNat_zero,Int.cast_ofNat_Int]at J K L M
  simp[results,Tryz.results66,go_sem, *]
 have bC:decide ((16384:Int)<n)=false:=aC (by omega);have cf:decide (16384<n)=false:=Xd7 hl;obtain⟨w2,Y⟩:=ak (w1.alloc (.cells #[.slice a n c,.bool false] 200));have Z:ah w1 w2:=by rw[Y];exact ae
 have aj:w2.heap.size=w.heap.size+2:=by rw[Y];simp[hs1]
 obtain⟨w3,aa⟩:∃w3,w3=w2.alloc (.cells #[.slice none 0 0,.int .i64 0,.int .i64 0,.string {data:=#[]}] 36):=⟨_,rfl⟩
 have ay:ah w2 w3:=by rw[aa];exact ae
 have bE:w3.heap.size=w.heap.size+3:=by rw[aa];simp[aj]
 have N:bL w2 (w.heap.size+1) (.slice a n c) false:=by rw[Y,<-hs1];exact heap_alloc_new w1 _
 have a0:ah w w2:=ai.trans (Z.mono (by omega));have a1:nL w w2 (w.heap.size+1) b false:=⟨a,n,c,N,hn,ad,by omega,a0,by omega⟩;have a2:=ag (a1.a ay);have a3:=ag ((ax.o.a Z).a ay);have QV:=ag (show aQ w3 (w.heap.size+2) (.slice none 0 0) 0 0 []by rw[aa,<-aj];exact aQ.new w2 _ 0 0 []);have HN:=ag (show b.length<=16384 by omega);have AZ:=ag (show w.heap.size+3<=w3.heap.size by omega);have Ao:=ag ad;obtain⟨v0,v1,v2,v3⟩:=QV.o.cells;have e1:=C.symm;have e2:=Y.symm;have e3:=aa.symm;clear ai Z ay bE N a0 a1 ad ax aY hl C Y aa hn;go_enter Tryz.func66,Tryz.ntmps66;go_wp2_with fail
 try simp only[hs1,aj]
 clear e1 e2 e3 v0 v1 v2 v3 hs1 aj;go_loopw [6] (fun i wr=>∃(k:Nat) (S:dL) (r:az) (bad:Bool) (U:aA) (V:Nat),k<=4∧i=.int .i64 k∧af (QY b k S r bad)∧af (dM wr (w.heap.size+3) (.slice U k V) S)∧af (aQ wr (w.heap.size+2) (.slice U k V) 0 0 [])∧af (aQ wr w.heap.size (.slice none 0 0) 0 0 [])∧af (nL w wr (w.heap.size+1) r bad)∧af (w.heap.size+3<=wr.heap.size)) (fun i _=>4-(intOf i).toNat)
 case atStart=>exact⟨0,[],b,false,none,0,by omega,rfl,ag ⟨rfl,by simp,rfl,fun _=>rfl⟩,ag (dM.nil _ _),QV,a3,a2,AZ⟩
 clear QV a3 a2 AZ;obtain⟨k,S,r,bad,U,V,hk,rfl,hL,hO,hV,hZ,hR,hS⟩:=hrel;have z:=hR.o.cell;by_cases aD:k<4∧bad=false
 ·obtain⟨ci,rfl⟩:=aD
  have cg:(k:Int)<4:=by omega
  have d:=YS 32 hR.o;go_wp2_with fail
  clear z;refine d.mono ?_
  rintro e w4⟨m,O,b1,rfl,hN,hC,Oj,a4⟩;have ch:m<=32:=hN.le.1;have Gm:=ag hN;have Eb:=a4 wr (jW.refl _ wr);have kV:=ag (hO.o.loq9 (by omega) Eb);have EI:=ag (hV.o.loq9 (by omega) Eb);have EP:=ag (hZ.o.loq9 (by omega) Eb);have a5:=ag hC;have BH:=ag (aG hS.o Eb.1);obtain⟨hi,a7⟩:=ak w4.heap.size;have am:=ag a7;clear d hN hC Oj a4 Eb hO hV hZ hR hS a7;go_wp2;go_loopw [7,9] (fun x i wr=>∃(j:Nat) (al:aA) (nl cl:Nat) (l:List dn) (Q:az) (b2:Bool),j<=m∧x=.slice al nl cl∧i=.int .u64 j∧af (We (su O b1) j l Q b2)∧af (zQ wr hi (.slice al nl cl) l)∧af (nL w wr (w.heap.size+1) Q b2)∧af (jW (w.heap.size+1) w4 wr)) (fun _ i _=>m-(intOf i).toNat)
  case atStart=>exact⟨0,none,0,0,[],O,b1,Xd5 _,rfl,rfl,ag ⟨rfl,rfl,fun _=>rfl⟩,ag (cO.nil _ _),a5,ag (jW.refl _ _)⟩
  clear a5;obtain⟨j,al,nl,cl,l,Q,b2,hj,rfl,rfl,hK,hM,hR,hQ⟩:=hrel;have z:=hR.o.cell;by_cases aE:j<m∧b2=false
  ·obtain⟨R,rfl⟩:=aE
   have xS:(j:Int)<m:=by omega
   have N:=hQ.o;have a8:=jW.refl (w.heap.size+1) wr;have d:=nD hR.o;go_wp2_with fail
   clear z;refine d.mono ?_
   rintro e D⟨W,ra,ba,rfl,a9,s,_,q⟩;have Ol:=q wr a8;have ab:=ag a9;obtain⟨wb,an⟩:∃wb,wb=D.alloc (.cells #[.string (bs W),.int .i64 0,.int .i64 0,.string {data:=#[]},.string {data:=#[]}] 124):=⟨_,rfl⟩
   have aH:ah D wb:=by rw[an];exact ae
   obtain⟨A,hA⟩:=ak D.heap.size;have bb:=ag (show Bx wb D.heap.size 124 #[.string (bs W),.int .i64 0,.int .i64 0,.string {data:=#[]},.string {data:=#[]}]by rw[an];exact Bx.new D _ _);have bc:=ag (s.a aH);have bd:=ag (Ol.a aH);have Jt:=ag (show w.heap.size+1<D.heap.size from s.lt);have vF:=ag (show wr.heap.size<=D.heap.size from Ol.1);clear d a9 s q Ol a8 aH hA A;have d:=YS 16384 bc.o;have F:=bb.o;have G:=F.lt;go_wp2_with fail
   rw[<-an];clear an;refine d.mono ?_
   rintro e bI⟨p,bJ,bK,rfl,t,s,_,q⟩;have ac:=ag t;have g:=Bx.loq9 F (by have:=Jt.o;omega) (q wb (jW.refl _ _));have Om:p<=16384:=t.le.1;have Gy:IntKind.i64.wrap (p:Int)=p:=by rw[IntKind.wrap_i64];omega
   have f:=q wr bd.o;clear d F G t q bb bc bd Om;have J:=g.at 0 rfl;have K:=g.at 1 rfl;have L:=g.at 2 rfl;have M:=g.at 3 rfl;have z4:=g.at 4 rfl;have y1:=g.fz 1;obtain⟨ao,wH⟩:=ak (bI.setCell ⟨D.heap.size,1,none⟩ (.int .i64 (p:Nat)));have Ju:=ag (show Bx ao D.heap.size 124 #[.string (bs W),.int .i64 (p:Nat),.int .i64 0,.string {data:=#[]},.string {data:=#[]}]by rw[wH];exact g.put 1 (.int .i64 (p:Nat)));have Jv:=ag (show nL w ao (w.heap.size+1) bJ bK by rw[wH];exact s.set Jt.o 1 _);have Jw:=ag (show jW (w.heap.size+1) wr ao by rw[wH];exact f.set vF.o 1 _);clear g s f;have d:=YS 65536 Jv.o;have F:=Ju.o;have G:=F.lt;go_wp2_with fail
   rw[<-wH];clear wH J K L M z4 y1 Gy;refine d.mono ?_
   rintro e bN⟨m3,bR,bV,rfl,t,s,_,q⟩;have be:=ag t;have g:=Bx.loq9 F (by have:=Jt.o;omega) (q ao (jW.refl _ _));have Om:m3<=65536:=t.le.1;have Gy:IntKind.i64.wrap (m3:Int)=m3:=by rw[IntKind.wrap_i64];omega
   have f:=q wr Jw.o;clear d F G t q Ju Jv Jw Om;have J:=g.at 0 rfl;have K:=g.at 1 rfl;have L:=g.at 2 rfl;have M:=g.at 3 rfl;have z4:=g.at 4 rfl;have y2:=g.fz 2;obtain⟨ap,wI⟩:=ak (bN.setCell ⟨D.heap.size,2,none⟩ (.int .i64 (m3:Nat)));have Jy:=ag (show Bx ap D.heap.size 124 #[.string (bs W),.int .i64 (p:Nat),.int .i64 (m3:Nat),.string {data:=#[]},.string {data:=#[]}]by rw[wI];exact g.put 2 (.int .i64 (m3:Nat)));have Jz:=ag (show nL w ap (w.heap.size+1) bR bV by rw[wI];exact s.set Jt.o 2 _);have JA:=ag (show jW (w.heap.size+1) wr ap by rw[wI];exact f.set vF.o 2 _);clear g s f;have d:=nD Jz.o;have F:=Jy.o;have G:=F.lt;go_wp2_with fail
   rw[<-wI];clear wI J K L M z4 y2 Gy;refine d.mono ?_
   rintro e bW⟨s4,b0,b3,rfl,t,s,_,q⟩;have QA:=ag t;have g:=Bx.loq9 F (by have:=Jt.o;omega) (q ap (jW.refl _ _));have f:=q wr JA.o;clear d F G t q Jy Jz JA;have J:=g.at 0 rfl;have K:=g.at 1 rfl;have L:=g.at 2 rfl;have M:=g.at 3 rfl;have z4:=g.at 4 rfl;have y3:=g.fz 3;obtain⟨aq,wJ⟩:=ak (bW.setCell ⟨D.heap.size,3,none⟩ (.string (bs s4)));have JB:=ag (show Bx aq D.heap.size 124 #[.string (bs W),.int .i64 (p:Nat),.int .i64 (m3:Nat),.string (bs s4),.string {data:=#[]}]by rw[wJ];exact g.put 3 (.string (bs s4)));have JC:=ag (show nL w aq (w.heap.size+1) b0 b3 by rw[wJ];exact s.set Jt.o 3 _);have JD:=ag (show jW (w.heap.size+1) wr aq by rw[wJ];exact f.set vF.o 3 _);clear g s f;have d:=nD JC.o;have F:=JB.o;have G:=F.lt;go_wp2_with fail
   rw[<-wJ];clear wJ J K L M z4 y3;refine d.mono ?_
   rintro e b4⟨s5,bg,bh,rfl,t,s,_,q⟩;have bj:=ag t;have g:=Bx.loq9 F (by have:=Jt.o;omega) (q aq (jW.refl _ _));have f:=q wr JD.o;clear d F G t q JB JC JD;have J:=g.at 0 rfl;have K:=g.at 1 rfl;have L:=g.at 2 rfl;have M:=g.at 3 rfl;have z4:=g.at 4 rfl;have y4:=g.fz 4;obtain⟨aJ,wK⟩:=ak (b4.setCell ⟨D.heap.size,4,none⟩ (.string (bs s5)));have sw:=ag (show Bx aJ D.heap.size 124 #[.string (bs W),.int .i64 (p:Nat),.int .i64 (m3:Nat),.string (bs s4),.string (bs s5)]by rw[wK];exact g.put 4 (.string (bs s5)));have JE:=ag (show nL w aJ (w.heap.size+1) bg bh by rw[wK];exact s.set Jt.o 4 _);have Ab:=ag (show jW (w.heap.size+1) wr aJ by rw[wK];exact f.set vF.o 4 _);clear g s f;have q0:=sw.o.at 0 rfl;have q1:=sw.o.at 1 rfl;have q2:=sw.o.at 2 rfl;have q3:=sw.o.at 3 rfl;have q4:=sw.o.at 4 rfl;have bk:w.heap.size+3<=hi:=by rw[am.o];exact BH.o
   have bl:=cO.loq hM.o (show w.heap.size+1<hi by omega) Ab.o;have cj:l.length<=1000:=by have:=hK.o.1;omega
   obtain⟨g8,n8,c8,w8,iw,sj,o8,b8,k8,_⟩:=qtf bl (aG (by rw[am.o];exact N.1) Ab.o.1) (by omega) (W,(p:Int),(m3:Int),s4,s5);dsimp only[gG,gH]at sj;obtain⟨t1,t2⟩:=Oh ab.o ac.o be.o QA.o bj.o;have T:=ag (show We (su O b1) (j+1) (l++[(W,(p:Int),(m3:Int),s4,s5)]) bg bh from⟨by simp[hK.o.1],by rw[fV,hK.o.2.1];exact t1,fun h=>by rw[fV,hK.o.2.1,t2 h,hK.o.2.2 rfl]⟩);have yH:=ag o8;have QZ:=ag (JE.o.low (b8.mono (show w.heap.size+1+1<=hi by omega)));have b5:=ag ((N.trans9 Ab.o).low9 b8 (by rw[am.o];exact Nat.le_refl _));have e9:=wK.symm;have g9:((j:Int)+1)%18446744073709551616=j+1:=by omega
   clear wK hK hM hR hQ N bl o8 b8 k8 t1 t2 sw JE Ab ab ac be QA bj iw;go_wp2_with (first|(at_builtin;refine xw rfl (.tmp 62) (.tmp 64) 105 rfl rfl rfl rfl sj ?_)|fail)
   clear sj e9 J K L M z4 y4 q0 q1 q2 q3 q4 g9;go_roundw
   case rel=>exact⟨j+1,_,_,_,_,_,_,by omega,rfl,by go_num,T,yH,QZ,b5⟩
   simp only[intOf];omega
  have I:=ag (show j=m∨b2=true by
   cases b2 with
   |true=>exact .inr rfl
   |false=>exact .inl (by have h9:¬j<m:=(fun h=>aE ⟨h,rfl⟩);omega))
  have T:=hK;have yH:=hM;clear aE;have bk:w.heap.size+3<=hi:=by rw[am.o];exact BH.o
  obtain⟨g6,c6,w6,Dz,o6,b6⟩:=qal8 (kV.o.loq9 (by omega) hQ.o) (aG BH.o hQ.o.1) (by have:=hL.o.1;omega) (hM.o.mono bk);have bm:=hL.o.1;rw[bm]at Dz o6;have aK:=EI.o.loq9 (by omega) hQ.o;obtain⟨s0,W,s2,B⟩:=aK.cells;have ar:=aK.low b6 (by omega);have bn:=(EP.o.loq9 (by omega) hQ.o).low b6 (by omega);have bo:=hR.o.low (b6.mono (by omega));have f0:=ar.fz 0;obtain⟨t0,t1,t2,t3⟩:=ar.cells;have aw:=ag (ar.put0 (.slice (some ⟨g6,0,none⟩) (k+1) c6));have iU:=ag (dM.set1v (j:=0) (u:=.slice (some ⟨g6,0,none⟩) (k+1) c6) o6 (show w.heap.size+2<w.heap.size+3 by omega));have BF:=ag (show aQ (w6.setCell ⟨w.heap.size+2,0,none⟩ (.slice (some ⟨g6,0,none⟩) (k+1) c6)) w.heap.size (.slice none 0 0) 0 0 []by
   unfold aQ;rw[heap_setCell_other w6 ⟨w.heap.size+2,0,none⟩ w.heap.size _ (fun e:w.heap.size=w.heap.size+2=>by omega)];exact bn)
  have QZ:=ag (bo.set (X:=w.heap.size+2) (by omega) 0 (.slice (some ⟨g6,0,none⟩) (k+1) c6));have zD:=ag (show w.heap.size+3<=(w6.setCell ⟨w.heap.size+2,0,none⟩ (.slice (some ⟨g6,0,none⟩) (k+1) c6)).heap.size by
   have h1:=aG (aG BH.o hQ.o.1) b6.size;simpa using h1)
  have Xc:=ag (hL.o.next (v:=.slice al nl cl) Gm.o T.o hj I.o);obtain⟨w9,H⟩:=ak (w6.setCell ⟨w.heap.size+2,0,none⟩ (.slice (some ⟨g6,0,none⟩) (k+1) c6));rw[<-H]at aw iU BF QZ zD;have e9:=H.symm;clear hK hM hR hQ aK ar bn bo o6 b6 H T yH hL kV EI EP BH bm;rcases I.o with R|Z
  ·have aO:decide (((j:Nat):Int)<m)=false:=by simpa using(by omega:¬((j:Nat):Int)<m)
   have Oo:decide (j<m)=false:=Xd7 (by omega);clear R;go_wp2_with (first|(at_builtin;refine xw rfl (.tmp 67) (.tmp 69) 34 rfl rfl rfl rfl Dz ?_)|fail)
   clear e9 Dz s0 W s2 B t0 t1 t2 t3 f0 z aO Oo;go_roundw
   case rel=>exact⟨k+1,_,_,_,_,c6,by omega,by go_num,Xc,iU,aw,BF,QZ,zD⟩
   simp only[intOf];omega
  subst Z;by_cases R:j<m
  ·have xS:(j:Int)<m:=by omega
   go_wp2_with (first|(at_builtin;refine xw rfl (.tmp 67) (.tmp 69) 34 rfl rfl rfl rfl Dz ?_)|fail)
   clear e9 Dz s0 W s2 B t0 t1 t2 t3 f0 z R xS;go_roundw
   case rel=>exact⟨k+1,_,_,_,_,c6,by omega,by go_num,Xc,iU,aw,BF,QZ,zD⟩
   simp only[intOf];omega
  have aO:decide (((j:Nat):Int)<m)=false:=by simpa using(by omega:¬((j:Nat):Int)<m)
  have Oo:decide (j<m)=false:=Xd7 R;go_wp2_with (first|(at_builtin;refine xw rfl (.tmp 67) (.tmp 69) 34 rfl rfl rfl rfl Dz ?_)|fail)
  clear e9 Dz s0 W s2 B t0 t1 t2 t3 f0 z aO Oo R;go_roundw
  case rel=>exact⟨k+1,_,_,_,_,c6,by omega,by go_num,Xc,iU,aw,BF,QZ,zD⟩
  simp only[intOf];omega
 have he:k=4∨bad=true:=by
  cases bad with
  |true=>exact .inr rfl
  |false=>exact .inl (by have h9:¬k<4:=(fun h=>aD ⟨h,rfl⟩);omega)
 have HL:=ag (hL.o.all hk he);have b7:=ag (show S.length=k∧(aT S).flatten.length<=128 from⟨hL.o.1,by have:=hL.o.2.1;omega⟩);clear aD hL;have aS:decide ((k:Int)<4)=false∨(k:Int)<4∧bad=true:=by
  by_cases h9:k<4
  ·exact .inr ⟨by omega,he.resolve_left (by omega)⟩
  exact .inl (Xd7 (by omega))
 clear he;rcases aS with bp|⟨bp,rfl⟩
 all_goals
  have d:=YS 1099511627776 hR.o;obtain⟨v0,v1,v2,v3⟩:=hV.o.cells;go_wp2_with fail
  clear z v0 v1 v2 v3 bp;refine d.mono ?_
  rintro e x0⟨y,b9,ca,rfl,t,s,Oj,q⟩;have br:=ag t;have f:=q wr (jW.refl _ wr);have hv:=hV.o.loq9 (by omega) f;have hz:=hZ.o.loq9 (by omega) f;have ho:=hO.o.loq9 (by omega) f;have hs:=aG hS.o f.1;have Om:y<=1099511627776:=t.le.1;have Gy:IntKind.i64.wrap (y:Int)=y:=by rw[IntKind.wrap_i64];omega
  clear d t Oj q f hR hV hZ hO hS Om;obtain⟨u0,u1,u2,u3⟩:=hv.cells;have f1:=hv.fz 1;obtain⟨x1,zg⟩:=ak (x0.setCell ⟨w.heap.size+2,1,none⟩ (.int .i64 (y:Nat)));have YU:=ag (show aQ x1 (w.heap.size+2) (.slice U k V) ((y:Nat)) (0) ([])by rw[zg];exact(aQ.bx hv).put 1 (.int .i64 (y:Nat)));have YV:=ag (show aQ x1 w.heap.size (.slice none 0 0) 0 0 []by rw[zg];exact(aQ.bx hz).other (by omega) 1 _);have YW:=ag (show dM x1 (w.heap.size+3) (.slice U k V) S by rw[zg];exact dM.set1v ho (by omega));have YX:=ag (show nL w x1 (w.heap.size+1) b9 ca by rw[zg];exact s.set (by omega) 1 _);have YY:=ag (show w.heap.size+3<=x1.heap.size by rw[zg];simpa using hs);clear hv hz ho hs s;have d:=YS 1099511627776 YX.o;go_wp2_with fail
  rw[<-zg];clear zg u0 u1 u2 u3 f1 Gy;refine d.mono ?_
  rintro e x2⟨p,cb,cc,rfl,t,s,Oj,q⟩;have ab:=ag t;have f:=q x1 (jW.refl _ x1);have hv:=YU.o.loq9 (by omega) f;have hz:=YV.o.loq9 (by omega) f;have ho:=YW.o.loq9 (by omega) f;have hs:=aG YY.o f.1;have Om:p<=1099511627776:=t.le.1;have Gy:IntKind.i64.wrap (p:Int)=p:=by rw[IntKind.wrap_i64];omega
  clear d t Oj q f YX YU YV YW YY Om;obtain⟨u0,u1,u2,u3⟩:=hv.cells;have f2:=hv.fz 2;obtain⟨x3,zh⟩:=ak (x2.setCell ⟨w.heap.size+2,2,none⟩ (.int .i64 (p:Nat)));have YZ:=ag (show aQ x3 (w.heap.size+2) (.slice U k V) ((y:Nat)) ((p:Nat)) ([])by rw[zh];exact(aQ.bx hv).put 2 (.int .i64 (p:Nat)));have Y0:=ag (show aQ x3 w.heap.size (.slice none 0 0) 0 0 []by rw[zh];exact(aQ.bx hz).other (by omega) 2 _);have Y1:=ag (show dM x3 (w.heap.size+3) (.slice U k V) S by rw[zh];exact dM.set1v ho (by omega));have Y2:=ag (show nL w x3 (w.heap.size+1) cb cc by rw[zh];exact s.set (by omega) 2 _);have Y3:=ag (show w.heap.size+3<=x3.heap.size by rw[zh];simpa using hs);clear hv hz ho hs s;have d:=nD Y2.o;go_wp2_with fail
  rw[<-zh];clear zh u0 u1 u2 u3 f2 Gy;refine d.mono ?_
  rintro e x4⟨B,bt,bu,rfl,t,s,Oj,q⟩;have ac:=ag t;have f:=q x3 (jW.refl _ x3);have hv:=YZ.o.loq9 (by omega) f;have hz:=Y0.o.loq9 (by omega) f;have ho:=Y1.o.loq9 (by omega) f;have hs:=aG Y3.o f.1;clear d t Oj q f Y2 YZ Y0 Y1 Y3;obtain⟨u0,u1,u2,u3⟩:=hv.cells;have f3:=hv.fz 3;obtain⟨x5,Bi⟩:=ak (x4.setCell ⟨w.heap.size+2,3,none⟩ (.string (bs B)));have Oq:=ag (show aQ x5 (w.heap.size+2) (.slice U k V) ((y:Nat)) ((p:Nat)) (B)by rw[Bi];exact(aQ.bx hv).put 3 (.string (bs B)));have Ot:=ag (show aQ x5 w.heap.size (.slice none 0 0) 0 0 []by rw[Bi];exact(aQ.bx hz).other (by omega) 3 _);have Ou:=ag (show dM x5 (w.heap.size+3) (.slice U k V) S by rw[Bi];exact dM.set1v ho (by omega));have Ov:=ag (show nL w x5 (w.heap.size+1) bt bu by rw[Bi];exact s.set (by omega) 3 _);clear hv hz ho hs s;have Y4:=ag (Oi HL.o br.o ab.o ac.o);have z:=Ov.o.cell;obtain⟨r0,O,Q,r3⟩:=Oq.o.cells;have fK:=ag Ov.o.below;have e5:=Bi.symm;clear Bi br ab ac HL;cases bu with
  |true=>
   have I:=ag (show dx b=8∧eD b=fo by
    have e:=Rz HN.o (by rw[Y4.o.1];rfl);exact⟨e,by unfold eD;rw[e,if_neg (by decide)]⟩)
   clear Y4;obtain⟨w9,H,dG,T,r0,O,Q,r3,f0,f1,f2,f3,J,K,L,M⟩:=yD Ot fK aL;go_wp2;try rw[H]
   clear r0 O Q r3 f0 f1 f2 f3 H T;refine bodyPost_ret ?_ rfl ⟨mH I,dG.o⟩
   simp[results,Tryz.results66,go_sem, *]
  |false=>
   have Ow:jh (some b)=((aT S,(y:Int),(p:Int),B),some bt):=Prod.ext (Y4.o.2 rfl) Y4.o.1;have bv:=qri HN.o Ow;have cd:=ag Ow;have Jb:=ag bv;have d:=qtx U k V S (y:Int) (p:Int) B x5 Ou.o.rd (by omega) (by have:=b7.o.2;omega);clear Ow bv Y4;go_wp2_with fail
   clear e5 u0 u1 u2 u3 f3 r0 O Q r3 z;refine d.mono ?_
   rintro e x6⟨v6,rfl,o6,b6⟩;have bw:=ag (Oq.o.a b6);have Ox:=ag (Ot.o.a b6);have bz:=ag (Ou.o.a b6);have mJ:=ag (fK.o.trans (b6.mono fK.o.size));have aW:=sD (P:=Tryz.prog) 23 5 9 Tryz.underlying23 Tryz.underlying5 Tryz.underlying9 o6.rd;have ce:=sD (P:=Tryz.prog) 23 5 9 Tryz.underlying23 Tryz.underlying5 Tryz.underlying9 (Ao.o.a mJ.o);obtain⟨a6,c6,e6⟩:=o6.form;obtain⟨n6,Ey⟩:=ak ((kM (aT S,(y:Int),(p:Int),B)).length);rw[<-Ey]at e6;subst e6;clear d o6 b6 Ey Oq Ot Ou Ov fK;obtain⟨E,hE⟩:=ak (dw (aT S,(y:Int),(p:Int),B));rw[<-hE];have mM:=ag hE;clear hE;obtain⟨u0,u1,u2,u3⟩:=bw.o.cells;by_cases h0:E=0
   ·subst h0
    have hW:kM (aT S,(y:Int),(p:Int),B)=dS (aT S,(y:Int),(p:Int),B):=by unfold kM;rw[if_pos mM.o.symm]
    rw[hW]at aW;clear hW;by_cases h1:dS (aT S,(y:Int),(p:Int),B)=b
    ·have I:=ag (show dx b=0∧eD b=(aT S,(y:Int),(p:Int),B)by
      have e:dx b=0:=by rw[Jb.o,if_pos ⟨mM.o.symm,h1⟩]
      exact⟨e,by unfold eD;rw[if_pos e,cd.o]⟩)
     rw[h1]at aW;clear h1;obtain⟨w9,H,dG,T,r0,O,Q,r3,f0,f1,f2,f3,J,K,L,M⟩:=CZ Ox mJ aL (.slice U k V) (y:Nat) (p:Nat) B;have iU:=ag (bz.o.keepV T);go_wp2;try rw[H]
     clear r0 O Q r3 f0 f1 f2 f3 H T;refine bodyPost_ret (v:=.tuple #[.agg #[.slice U k V,.int .i64 (y:Nat),.int .i64 (p:Nat),.string (bs B)],.int .i64 0]) ?_ rfl ⟨by rw[I.o.1,I.o.2];exact⟨_,S,rfl,iU.o.mono (by omega),rfl⟩,dG.o⟩
     simp[results,Tryz.results66,go_sem, *]
    have I:=ag (show dx b=8∧eD b=fo by
     have e:dx b=8:=by rw[Jb.o,if_neg (fun h=>h1 h.2)]
     exact⟨e,by unfold eD;rw[e,if_neg (by decide)]⟩)
    have ck:((bs (dS (aT S,(y:Int),(p:Int),B))).toList==(bs b).toList)=false:=by
     rw[QP];exact Xd7 h1
    generalize dS (aT S,(y:Int),(p:Int),B)=vb at *;clear h1;obtain⟨w9,H,dG,T,r0,O,Q,r3,f0,f1,f2,f3,J,K,L,M⟩:=yD Ox mJ aL;go_wp2;try rw[H]
    clear r0 O Q r3 f0 f1 f2 f3 H T;refine bodyPost_ret ?_ rfl ⟨mH I,dG.o⟩
    simp[results,Tryz.results66,go_sem, *]
   have cm:(E !=0)=true:=Xe1 h0;have M9:(E==0)=false:=Xe2 h0;have I:=ag (show dx b=8∧eD b=fo by
    have e:dx b=8:=by rw[Jb.o,if_neg (fun h=>h0 (mM.o.trans h.1))]
    exact⟨e,by unfold eD;rw[e,if_neg (by decide)]⟩)
   clear h0 aW ce;obtain⟨w9,H,dG,T,r0,O,Q,r3,f0,f1,f2,f3,J,K,L,M⟩:=yD Ox mJ aL;go_wp2;try rw[H]
   clear r0 O Q r3 f0 f1 f2 f3 H T;refine bodyPost_ret ?_ rfl ⟨mH I,dG.o⟩
   simp[results,Tryz.results66,go_sem, *]
end Go.Proofs.YtmeaiocohalphaaGreatDoor
