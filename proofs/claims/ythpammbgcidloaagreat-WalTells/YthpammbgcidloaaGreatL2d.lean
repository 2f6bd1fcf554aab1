/-
  What the document's samePut and SameActs do.
-/
import Derived.Test.YthpammbgcidloaaGreatMathFs
set_option maxHeartbeats 1000000
set_option maxRecDepth 100000
namespace Go.Proofs.YthpammbgcidloaaGreat
open Go.RowKit
set_option linter.all false
theorem CE {P:Program} {f:FuncId} {args:Array Value} {w:World} {b r:Bool} (h:b=r) (a:Calls P f args w fun e w'=>e=.returned (.bool b)∧ah w w'):Calls P f args w fun e w'=>e=.returned (.bool r)∧ah w w':=h ▸ a
theorem Cz (p q:Pu) (x y:au) (j d1 l d2:Nat) (w:World) (h:Rd w (.slice x j d1) p.2) (k:Rd w (.slice y l d2) q.2):
  Calls Tryz.prog 134 #[.agg #[.int .i64 p.1,.slice x j d1],.agg #[.int .i64 q.1,.slice y l d2]] w fun e w'=>e=.returned (.bool (decide (p=q)))∧ah w w':=by
 obtain ⟨b,d⟩:=p;obtain ⟨f,g⟩:=q;have c:∀o a,ah w ((w.alloc o).alloc a):=fun o a=>(ae).alloc (by simp) _
 have m:=fun o a=>ik (P:=Tryz.prog) 22 5 9 Tryz.underlying22 Tryz.underlying5 Tryz.underlying9 (h.a (c o a))
 have n:=fun o a=>ik (P:=Tryz.prog) 22 5 9 Tryz.underlying22 Tryz.underlying5 Tryz.underlying9 (k.a (c o a))
 clear h k;by_cases e:b=f
 ·subst e
  have i:=ag (show decide (((b,d):Pu)=(b,g))=((bs d).toList==(bs g).toList) by rw [FU];simp);go_enter Tryz.func134,Tryz.ntmps134;go_wp2;go_ret;exact ⟨by first | (rw [i.o];rfl) | (simp only [FU];simp),c _ _⟩
 ·have r:(b==f)=false:=by simpa using e
  have i:=ag (show decide (((b,d):Pu)=(f,g))=false by simp [e]);go_enter Tryz.func134,Tryz.ntmps134;go_wp2;go_ret;exact ⟨by first | rfl | (rw [i.o];rfl),c _ _⟩
theorem qrz (l m:List Ac) (a b:au) (n1 c1 n2 c2:Nat) (w:World) (h:RdA w (.slice a n1 c1) l) (k:RdA w (.slice b n2 c2) m) (e1:n1=l.length) (e2:n2=m.length):
  Calls Tryz.prog 88 #[.slice a n1 c1,.slice b n2 c2] w fun e w'=>e=.returned (.bool (decide (l=m)))∧ah w w':=by
 have H:=ag h;have K:=ag k;have E1:=ag e1;have E2:=ag e2;have ad:n1<=maxLen:=e1 ▸ h.len_le;unfold maxLen at ad;clear h k e1 e2;by_cases hn:n1=n2
 ·subst hn
  go_enter Tryz.func88,Tryz.ntmps88;go_wp2;go_loopw [5] (fun i wr=>∃k:Nat,k<=n1∧i=.int .i64 k∧af (l.take k=m.take k)∧ah w wr) (fun i _=>n1 - (intOf i).toNat)
  case atStart=>exact ⟨0,Nat.zero_le _,rfl,rfl,aB⟩
  case round=>
   obtain ⟨k,hk,rfl,O,z⟩:=hrel;by_cases an:k<n1
   ·have aa:(k:Int)<n1:=by omega
    have L:k<l.length:=by have:=E1.o;omega
    have om:k<m.length:=by have:=E2.o;omega
    obtain ⟨F,G,rfl,Y,Z,x,m1,d1,q1,q2,q3⟩:=(H.o.a z).at k L;obtain ⟨I,J,rfl,r0,D,y,m2,d2,r1,r2,r3⟩:=(K.o.a z).at k om;clear q2 q3 r2 r3;obtain ⟨_,_,e9,_,_,P,Q,R,p1,p2,p3⟩:=H.o.at k L;clear p3;cases e9;obtain ⟨_,_,e9,_,_,S,U,V,ab,ac,al⟩:=K.o.at k om;clear al;cases e9;have ex:P=x∧Q=m1∧R=d1:=by
     have:=(aR _ _ _ _ p1 z).symm.trans q1
     injection this with this;injection this with t1 t2 t3;exact ⟨t1,t2,t3⟩
    have ey:S=y∧U=m2∧V=d2:=by
     have:=(aR _ _ _ _ ab z).symm.trans r1
     injection this with this;injection this with t1 t2 t3;exact ⟨t1,t2,t3⟩
    obtain ⟨rfl,rfl,rfl⟩:=ex;obtain ⟨rfl,rfl,rfl⟩:=ey;have HQ:=ag p2;have HR:=ag ac;obtain ⟨⟨s,N,L1⟩,hp⟩:∃p:Ac,l[k]=p:=⟨_,rfl⟩;obtain ⟨⟨T,W,L2⟩,X⟩:∃p:Ac,m[k]=p:=⟨_,rfl⟩;have HP:=ag hp;have Cx:=ag X;rw [hp] at Y Z HQ;rw [X] at r0 D HR;dsimp only at Y Z r0 D HQ HR;clear hp X p1 p2 ab ac;obtain ⟨r,er⟩:∃r:Bool,decide (((N,L1):Pu)=(W,L2))=r:=⟨_,rfl⟩;have E:=ag er;clear er
    cases s<;>cases T
    ·have M:aL (fun f=>(f.cell? ⟨F,G+k*3,none⟩=some (.bool false)∧f.cell? ⟨F,G+k*3+1,none⟩=some (.int .i64 N)∧f.cell? ⟨F,G+k*3+2,none⟩=some (.slice P Q R))∧(f.cell? ⟨I,J+k*3,none⟩=some (.bool false)∧f.cell? ⟨I,J+k*3+1,none⟩=some (.int .i64 W)∧f.cell? ⟨I,J+k*3+2,none⟩=some (.slice S U V))∧ah w f):=((aR _ _).and ((aR _ _).and (aR _ _))).and (((aR _ _).and ((aR _ _).and (aR _ _))).and (jW _))
     go_wp2;refine gH M (by kernel_rfl) ⟨⟨Y,Z,q1⟩,⟨r0,D,r1⟩,z⟩ ?_
     intro d;refine bZ (i:=0) (v:=?q1v0) rfl (by kernel_rfl) (by kernel_rfl) (by kernel_rfl) (by rfl) ?q1y0 d ?q1r0
     case q1y0=>(rintro f ⟨⟨g,j,n⟩,⟨q,t,u⟩,c⟩;go_simp<;>with_reducible rfl)
     try simp only [az]
     refine bZ (i:=1) (v:=?q1v1) rfl (by kernel_rfl) (by kernel_rfl) (by kernel_rfl) (by rfl) ?q1y1 d ?q1r1
     case q1y1=>(rintro f ⟨⟨g,j,n⟩,⟨q,t,u⟩,c⟩;go_simp<;>with_reducible rfl)
     try simp only [az]
     refine bZ (i:=2) (v:=?q1v2) rfl (by kernel_rfl) (by kernel_rfl) (by kernel_rfl) (by rfl) ?q1y2 d ?q1r2
     case q1y2=>(rintro f ⟨⟨g,j,n⟩,⟨q,t,u⟩,c⟩;go_simp<;>with_reducible rfl)
     try simp only [az]
     refine bZ (i:=3) (v:=?q1v3) rfl (by kernel_rfl) (by kernel_rfl) (by kernel_rfl) (by rfl) ?q1y3 d ?q1r3
     case q1y3=>(rintro f ⟨⟨g,j,n⟩,⟨q,t,u⟩,c⟩;go_simp<;>with_reducible rfl)
     try simp only [az]
     refine bZ (i:=4) (v:=?q1v4) rfl (by kernel_rfl) (by kernel_rfl) (by kernel_rfl) (by rfl) ?q1y4 d ?q1r4
     case q1y4=>(rintro f ⟨⟨g,j,n⟩,⟨q,t,u⟩,c⟩;go_simp<;>with_reducible rfl)
     try simp only [az]
     refine bZ (i:=5) (v:=?q1v5) rfl (by kernel_rfl) (by kernel_rfl) (by kernel_rfl) (by rfl) ?q1y5 d ?q1r5
     case q1y5=>(rintro f ⟨⟨g,j,n⟩,⟨q,t,u⟩,c⟩;go_simp<;>with_reducible rfl)
     try simp only [az]
     refine bZ (i:=6) (v:=?q1v6) rfl (by kernel_rfl) (by kernel_rfl) (by kernel_rfl) (by rfl) ?q1y6 d ?q1r6
     case q1y6=>(rintro f ⟨⟨g,j,n⟩,⟨q,t,u⟩,c⟩;go_simp<;>with_reducible rfl)
     try simp only [az]
     refine bZ (i:=7) (v:=?q1v7) rfl (by kernel_rfl) (by kernel_rfl) (by kernel_rfl) (by rfl) ?q1y7 d ?q1r7
     case q1y7=>(rintro f ⟨⟨g,j,n⟩,⟨q,t,u⟩,c⟩;go_simp<;>with_reducible rfl)
     try simp only [az]
     refine bZ (i:=8) (v:=?q1v8) rfl (by kernel_rfl) (by kernel_rfl) (by kernel_rfl) (by rfl) ?q1y8 d ?q1r8
     case q1y8=>(rintro f ⟨⟨g,j,n⟩,⟨q,t,u⟩,c⟩;go_simp<;>with_reducible rfl)
     try simp only [az]
     refine bZ (i:=9) (v:=?q1v9) rfl (by kernel_rfl) (by kernel_rfl) (by kernel_rfl) (by rfl) ?q1y9 d ?q1r9
     case q1y9=>(rintro f ⟨⟨g,j,n⟩,⟨q,t,u⟩,c⟩;go_simp<;>with_reducible rfl)
     try simp only [az]
     refine bZ (i:=10) (v:=?Ob) rfl (by kernel_rfl) (by kernel_rfl) (by kernel_rfl) (by rfl) ?zI d ?Oc
     case zI=>(rintro f ⟨⟨g,j,n⟩,⟨q,t,u⟩,c⟩;go_simp<;>with_reducible rfl)
     try simp only [az]
     refine bZ (i:=11) (v:=?q1v11) rfl (by kernel_rfl) (by kernel_rfl) (by kernel_rfl) (by rfl) ?Od d ?q1r11
     case Od=>(rintro f ⟨⟨g,j,n⟩,⟨q,t,u⟩,c⟩;go_simp<;>with_reducible rfl)
     try simp only [az]
     refine bZ (i:=12) (v:=?q1v12) rfl (by kernel_rfl) (by kernel_rfl) (by kernel_rfl) (by rfl) ?Oe d ?q1r12
     case Oe=>(rintro f ⟨⟨g,j,n⟩,⟨q,t,u⟩,c⟩;go_simp<;>with_reducible rfl)
     try simp only [az]
     refine bZ (i:=13) (v:=?q1v13) rfl (by kernel_rfl) (by kernel_rfl) (by kernel_rfl) (by rfl) ?Og d ?q1r13
     case Og=>(rintro f ⟨⟨g,j,n⟩,⟨q,t,u⟩,c⟩;go_simp<;>with_reducible rfl)
     try simp only [az]
     refine bZ (i:=14) (v:=?q1v14) rfl (by kernel_rfl) (by kernel_rfl) (by kernel_rfl) (by rfl) ?Oh d ?q1r14
     case Oh=>(rintro f ⟨⟨g,j,n⟩,⟨q,t,u⟩,c⟩;go_simp<;>with_reducible rfl)
     try simp only [az]
     refine bZ (i:=15) (v:=?q1v15) rfl (by kernel_rfl) (by kernel_rfl) (by kernel_rfl) (by rfl) ?Oi d ?q1r15
     case Oi=>(rintro f ⟨⟨g,j,n⟩,⟨q,t,u⟩,c⟩;go_simp<;>with_reducible rfl)
     try simp only [az]
     refine bZ (i:=16) (v:=?q1v16) rfl (by kernel_rfl) (by kernel_rfl) (by kernel_rfl) (by rfl) ?Oj d ?q1r16
     case Oj=>(rintro f ⟨⟨g,j,n⟩,⟨q,t,u⟩,c⟩;go_simp<;>with_reducible rfl)
     try simp only [az]
     refine bZ (i:=17) (v:=?q1v17) rfl (by kernel_rfl) (by kernel_rfl) (by kernel_rfl) (by rfl) ?Ol d ?q1r17
     case Ol=>(rintro f ⟨⟨g,j,n⟩,⟨q,t,u⟩,c⟩;go_simp<;>with_reducible rfl)
     try simp only [az]
     refine bZ (i:=18) (v:=?q1v18) rfl (by kernel_rfl) (by kernel_rfl) (by kernel_rfl) (by rfl) ?Om d ?q1r18
     case Om=>(rintro f ⟨⟨g,j,n⟩,⟨q,t,u⟩,c⟩;go_simp<;>with_reducible rfl)
     try simp only [az]
     refine bZ (i:=19) (v:=?q1v19) rfl (by kernel_rfl) (by kernel_rfl) (by kernel_rfl) (by rfl) ?Oo d ?q1r19
     case Oo=>(rintro f ⟨⟨g,j,n⟩,⟨q,t,u⟩,c⟩;go_simp<;>with_reducible rfl)
     try simp only [az]
     refine bZ (i:=20) (v:=?q1v20) rfl (by kernel_rfl) (by kernel_rfl) (by kernel_rfl) (by rfl) ?Oq d ?q1r20
     case Oq=>(rintro f ⟨⟨g,j,n⟩,⟨q,t,u⟩,c⟩;go_simp<;>with_reducible rfl)
     try simp only [az]
     refine bZ (i:=21) (v:=?q1v21) rfl (by kernel_rfl) (by kernel_rfl) (by kernel_rfl) (by rfl) ?Ot d ?q1r21
     case Ot=>(rintro f ⟨⟨g,j,n⟩,⟨q,t,u⟩,c⟩;go_simp<;>with_reducible rfl)
     try simp only [az]
     refine qo M (i:=22) (v:=.bool r) rfl (by kernel_rfl) (by rfl) (by go_simp) d (CE E.o (Cz (N,L1) (W,L2) P S Q R U V _ (HQ.o.a (d.2.2.mono aI)) (HR.o.a (d.2.2.mono aI)))) ?_
     clear d;intro am d;try simp only [az]
     refine bZ (i:=23) (v:=?q1v23) rfl (by kernel_rfl) (by kernel_rfl) (by kernel_rfl) (by rfl) ?Ou d ?q1r23
     case Ou=>(rintro f ⟨⟨g,j,n⟩,⟨q,t,u⟩,c⟩;go_simp<;>with_reducible rfl)
     try simp only [az]
     refine bZ (i:=24) (v:=?q1v24) rfl (by kernel_rfl) (by kernel_rfl) (by kernel_rfl) (by rfl) ?Ov d ?q1r24
     case Ov=>(rintro f ⟨⟨g,j,n⟩,⟨q,t,u⟩,c⟩;go_simp<;>with_reducible rfl)
     try simp only [az]
     refine wpAnyH_done (by kernel_rfl) ?_ _
     refine NoPanic.normal ?_
     obtain ⟨_,_,A⟩:=d;cases r
     ·have C:=ag (show decide (l=m)=false by
       simp only [decide_eq_false_iff_not];intro e;have B:l[k]=m[k]:=by simp only [e]
       rw [HP.o,Cx.o] at B;injection B with _ B;have:=E.o
       rw [decide_eq_true B] at this;cases this)
      go_wp2;go_ret;exact ⟨by first | rfl | (rw [C.o];rfl),A⟩
     ·have C:=ag (show l[k]=m[k] by
       have h:=of_decide_eq_true E.o;rw [HP.o,Cx.o];injection h with h1 h2;rw [h1,h2])
      go_wp2;go_roundw
      case rel=>exact ⟨k+1,by omega,by go_num,by show _=_;rw [List.take_succ_eq_append_getElem L,List.take_succ_eq_append_getElem om,O.o,C.o],A⟩
      case measure=>simp [intOf]<;>omega
    ·have C:=ag (show decide (l=m)=false by
      simp only [decide_eq_false_iff_not];intro e;have B:l[k]=m[k]:=by simp only [e]
      rw [HP.o,Cx.o] at B;injection B with B _;cases B)
     have M:aL (fun f=>(f.cell? ⟨F,G+k*3,none⟩=some (.bool false)∧f.cell? ⟨F,G+k*3+1,none⟩=some (.int .i64 N)∧f.cell? ⟨F,G+k*3+2,none⟩=some (.slice P Q R))∧(f.cell? ⟨I,J+k*3,none⟩=some (.bool true)∧f.cell? ⟨I,J+k*3+1,none⟩=some (.int .i64 W)∧f.cell? ⟨I,J+k*3+2,none⟩=some (.slice S U V))∧ah w f):=((aR _ _).and ((aR _ _).and (aR _ _))).and (((aR _ _).and ((aR _ _).and (aR _ _))).and (jW _));go_wp2;refine gH M (by kernel_rfl) ⟨⟨Y,Z,q1⟩,⟨r0,D,r1⟩,z⟩ ?_
     intro d;refine bZ (i:=0) (v:=?q2v0) rfl (by kernel_rfl) (by kernel_rfl) (by kernel_rfl) (by rfl) ?q2y0 d ?q2r0
     case q2y0=>(rintro f ⟨⟨g,j,n⟩,⟨q,t,u⟩,c⟩;go_simp<;>with_reducible rfl)
     try simp only [az]
     refine bZ (i:=1) (v:=?q2v1) rfl (by kernel_rfl) (by kernel_rfl) (by kernel_rfl) (by rfl) ?q2y1 d ?q2r1
     case q2y1=>(rintro f ⟨⟨g,j,n⟩,⟨q,t,u⟩,c⟩;go_simp<;>with_reducible rfl)
     try simp only [az]
     refine bZ (i:=2) (v:=?q2v2) rfl (by kernel_rfl) (by kernel_rfl) (by kernel_rfl) (by rfl) ?q2y2 d ?q2r2
     case q2y2=>(rintro f ⟨⟨g,j,n⟩,⟨q,t,u⟩,c⟩;go_simp<;>with_reducible rfl)
     try simp only [az]
     refine bZ (i:=3) (v:=?q2v3) rfl (by kernel_rfl) (by kernel_rfl) (by kernel_rfl) (by rfl) ?q2y3 d ?q2r3
     case q2y3=>(rintro f ⟨⟨g,j,n⟩,⟨q,t,u⟩,c⟩;go_simp<;>with_reducible rfl)
     try simp only [az]
     refine bZ (i:=4) (v:=?q2v4) rfl (by kernel_rfl) (by kernel_rfl) (by kernel_rfl) (by rfl) ?q2y4 d ?q2r4
     case q2y4=>(rintro f ⟨⟨g,j,n⟩,⟨q,t,u⟩,c⟩;go_simp<;>with_reducible rfl)
     try simp only [az]
     refine bZ (i:=5) (v:=?q2v5) rfl (by kernel_rfl) (by kernel_rfl) (by kernel_rfl) (by rfl) ?q2y5 d ?q2r5
     case q2y5=>(rintro f ⟨⟨g,j,n⟩,⟨q,t,u⟩,c⟩;go_simp<;>with_reducible rfl)
     try simp only [az]
     refine bZ (i:=6) (v:=?q2v6) rfl (by kernel_rfl) (by kernel_rfl) (by kernel_rfl) (by rfl) ?Gm d ?q2r6
     case Gm=>(rintro f ⟨⟨g,j,n⟩,⟨q,t,u⟩,c⟩;go_simp<;>with_reducible rfl)
     try simp only [az]
     refine bZ (i:=7) (v:=?q2v7) rfl (by kernel_rfl) (by kernel_rfl) (by kernel_rfl) (by rfl) ?q2y7 d ?q2r7
     case q2y7=>(rintro f ⟨⟨g,j,n⟩,⟨q,t,u⟩,c⟩;go_simp<;>with_reducible rfl)
     try simp only [az]
     refine bZ (i:=8) (v:=?q2v8) rfl (by kernel_rfl) (by kernel_rfl) (by kernel_rfl) (by rfl) ?q2y8 d ?q2r8
     case q2y8=>(rintro f ⟨⟨g,j,n⟩,⟨q,t,u⟩,c⟩;go_simp<;>with_reducible rfl)
     try simp only [az]
     refine bZ (i:=9) (v:=?q2v9) rfl (by kernel_rfl) (by kernel_rfl) (by kernel_rfl) (by rfl) ?q2y9 d ?q2r9
     case q2y9=>(rintro f ⟨⟨g,j,n⟩,⟨q,t,u⟩,c⟩;go_simp<;>with_reducible rfl)
     try simp only [az]
     refine bZ (i:=10) (v:=?q2v10) rfl (by kernel_rfl) (by kernel_rfl) (by kernel_rfl) (by rfl) ?Ow d ?q2r10
     case Ow=>(rintro f ⟨⟨g,j,n⟩,⟨q,t,u⟩,c⟩;go_simp<;>with_reducible rfl)
     try simp only [az]
     refine bZ (i:=11) (v:=?q2v11) rfl (by kernel_rfl) (by kernel_rfl) (by kernel_rfl) (by rfl) ?Ox d ?q2r11
     case Ox=>(rintro f ⟨⟨g,j,n⟩,⟨q,t,u⟩,c⟩;go_simp<;>with_reducible rfl)
     try simp only [az]
     refine nJ (i:=12) rfl (by kernel_rfl) (by kernel_rfl) (by kernel_rfl) (by rfl) d ?_
     try simp only [az]
     refine nJ (i:=13) rfl (by kernel_rfl) (by kernel_rfl) (by kernel_rfl) (by rfl) d ?_
     try simp only [az]
     refine nJ (i:=14) rfl (by kernel_rfl) (by kernel_rfl) (by kernel_rfl) (by rfl) d ?_
     try simp only [az]
     refine nJ (i:=15) rfl (by kernel_rfl) (by kernel_rfl) (by kernel_rfl) (by rfl) d ?_
     try simp only [az]
     refine nJ (i:=16) rfl (by kernel_rfl) (by kernel_rfl) (by kernel_rfl) (by rfl) d ?_
     try simp only [az]
     refine nJ (i:=17) rfl (by kernel_rfl) (by kernel_rfl) (by kernel_rfl) (by rfl) d ?_
     try simp only [az]
     refine nJ (i:=18) rfl (by kernel_rfl) (by kernel_rfl) (by kernel_rfl) (by rfl) d ?_
     try simp only [az]
     refine nJ (i:=19) rfl (by kernel_rfl) (by kernel_rfl) (by kernel_rfl) (by rfl) d ?_
     try simp only [az]
     refine nJ (i:=20) rfl (by kernel_rfl) (by kernel_rfl) (by kernel_rfl) (by rfl) d ?_
     try simp only [az]
     refine nJ (i:=21) rfl (by kernel_rfl) (by kernel_rfl) (by kernel_rfl) (by rfl) d ?_
     try simp only [az]
     refine nJ (i:=22) rfl (by kernel_rfl) (by kernel_rfl) (by kernel_rfl) (by rfl) d ?_
     try simp only [az]
     refine nJ (i:=23) rfl (by kernel_rfl) (by kernel_rfl) (by kernel_rfl) (by rfl) d ?_
     try simp only [az]
     refine bZ (i:=24) (v:=?q2v24) rfl (by kernel_rfl) (by kernel_rfl) (by kernel_rfl) (by rfl) ?Oy d ?q2r24
     case Oy=>(rintro f ⟨⟨g,j,n⟩,⟨q,t,u⟩,c⟩;go_simp<;>with_reducible rfl)
     try simp only [az]
     refine wpAnyH_done (by kernel_rfl) ?_ _
     refine NoPanic.normal ?_
     obtain ⟨_,_,A⟩:=d;go_wp2;go_ret;exact ⟨by first | rfl | (rw [C.o];rfl),A⟩
    ·have C:=ag (show decide (l=m)=false by
      simp only [decide_eq_false_iff_not];intro e;have B:l[k]=m[k]:=by simp only [e]
      rw [HP.o,Cx.o] at B;injection B with B _;cases B)
     have M:aL (fun f=>(f.cell? ⟨F,G+k*3,none⟩=some (.bool true)∧f.cell? ⟨F,G+k*3+1,none⟩=some (.int .i64 N)∧f.cell? ⟨F,G+k*3+2,none⟩=some (.slice P Q R))∧(f.cell? ⟨I,J+k*3,none⟩=some (.bool false)∧f.cell? ⟨I,J+k*3+1,none⟩=some (.int .i64 W)∧f.cell? ⟨I,J+k*3+2,none⟩=some (.slice S U V))∧ah w f):=((aR _ _).and ((aR _ _).and (aR _ _))).and (((aR _ _).and ((aR _ _).and (aR _ _))).and (jW _));go_wp2;refine gH M (by kernel_rfl) ⟨⟨Y,Z,q1⟩,⟨r0,D,r1⟩,z⟩ ?_
     intro d;refine bZ (i:=0) (v:=?q3v0) rfl (by kernel_rfl) (by kernel_rfl) (by kernel_rfl) (by rfl) ?q3y0 d ?q3r0
     case q3y0=>(rintro f ⟨⟨g,j,n⟩,⟨q,t,u⟩,c⟩;go_simp<;>with_reducible rfl)
     try simp only [az]
     refine bZ (i:=1) (v:=?q3v1) rfl (by kernel_rfl) (by kernel_rfl) (by kernel_rfl) (by rfl) ?q3y1 d ?q3r1
     case q3y1=>(rintro f ⟨⟨g,j,n⟩,⟨q,t,u⟩,c⟩;go_simp<;>with_reducible rfl)
     try simp only [az]
     refine bZ (i:=2) (v:=?q3v2) rfl (by kernel_rfl) (by kernel_rfl) (by kernel_rfl) (by rfl) ?q3y2 d ?q3r2
     case q3y2=>(rintro f ⟨⟨g,j,n⟩,⟨q,t,u⟩,c⟩;go_simp<;>with_reducible rfl)
     try simp only [az]
     refine bZ (i:=3) (v:=?q3v3) rfl (by kernel_rfl) (by kernel_rfl) (by kernel_rfl) (by rfl) ?q3y3 d ?q3r3
     case q3y3=>(rintro f ⟨⟨g,j,n⟩,⟨q,t,u⟩,c⟩;go_simp<;>with_reducible rfl)
     try simp only [az]
     refine bZ (i:=4) (v:=?q3v4) rfl (by kernel_rfl) (by kernel_rfl) (by kernel_rfl) (by rfl) ?q3y4 d ?q3r4
     case q3y4=>(rintro f ⟨⟨g,j,n⟩,⟨q,t,u⟩,c⟩;go_simp<;>with_reducible rfl)
     try simp only [az]
     refine bZ (i:=5) (v:=?q3v5) rfl (by kernel_rfl) (by kernel_rfl) (by kernel_rfl) (by rfl) ?q3y5 d ?q3r5
     case q3y5=>(rintro f ⟨⟨g,j,n⟩,⟨q,t,u⟩,c⟩;go_simp<;>with_reducible rfl)
     try simp only [az]
     refine bZ (i:=6) (v:=?q3v6) rfl (by kernel_rfl) (by kernel_rfl) (by kernel_rfl) (by rfl) ?q3y6 d ?q3r6
     case q3y6=>(rintro f ⟨⟨g,j,n⟩,⟨q,t,u⟩,c⟩;go_simp<;>with_reducible rfl)
     try simp only [az]
     refine bZ (i:=7) (v:=?q3v7) rfl (by kernel_rfl) (by kernel_rfl) (by kernel_rfl) (by rfl) ?q3y7 d ?q3r7
     case q3y7=>(rintro f ⟨⟨g,j,n⟩,⟨q,t,u⟩,c⟩;go_simp<;>with_reducible rfl)
     try simp only [az]
     refine bZ (i:=8) (v:=?q3v8) rfl (by kernel_rfl) (by kernel_rfl) (by kernel_rfl) (by rfl) ?q3y8 d ?q3r8
     case q3y8=>(rintro f ⟨⟨g,j,n⟩,⟨q,t,u⟩,c⟩;go_simp<;>with_reducible rfl)
     try simp only [az]
     refine bZ (i:=9) (v:=?q3v9) rfl (by kernel_rfl) (by kernel_rfl) (by kernel_rfl) (by rfl) ?q3y9 d ?q3r9
     case q3y9=>(rintro f ⟨⟨g,j,n⟩,⟨q,t,u⟩,c⟩;go_simp<;>with_reducible rfl)
     try simp only [az]
     refine bZ (i:=10) (v:=?Oz) rfl (by kernel_rfl) (by kernel_rfl) (by kernel_rfl) (by rfl) ?zJ d ?OA
     case zJ=>(rintro f ⟨⟨g,j,n⟩,⟨q,t,u⟩,c⟩;go_simp<;>with_reducible rfl)
     try simp only [az]
     refine bZ (i:=11) (v:=?q3v11) rfl (by kernel_rfl) (by kernel_rfl) (by kernel_rfl) (by rfl) ?OB d ?q3r11
     case OB=>(rintro f ⟨⟨g,j,n⟩,⟨q,t,u⟩,c⟩;go_simp<;>with_reducible rfl)
     try simp only [az]
     refine nJ (i:=12) rfl (by kernel_rfl) (by kernel_rfl) (by kernel_rfl) (by rfl) d ?_
     try simp only [az]
     refine nJ (i:=13) rfl (by kernel_rfl) (by kernel_rfl) (by kernel_rfl) (by rfl) d ?_
     try simp only [az]
     refine nJ (i:=14) rfl (by kernel_rfl) (by kernel_rfl) (by kernel_rfl) (by rfl) d ?_
     try simp only [az]
     refine nJ (i:=15) rfl (by kernel_rfl) (by kernel_rfl) (by kernel_rfl) (by rfl) d ?_
     try simp only [az]
     refine nJ (i:=16) rfl (by kernel_rfl) (by kernel_rfl) (by kernel_rfl) (by rfl) d ?_
     try simp only [az]
     refine nJ (i:=17) rfl (by kernel_rfl) (by kernel_rfl) (by kernel_rfl) (by rfl) d ?_
     try simp only [az]
     refine nJ (i:=18) rfl (by kernel_rfl) (by kernel_rfl) (by kernel_rfl) (by rfl) d ?_
     try simp only [az]
     refine nJ (i:=19) rfl (by kernel_rfl) (by kernel_rfl) (by kernel_rfl) (by rfl) d ?_
     try simp only [az]
     refine nJ (i:=20) rfl (by kernel_rfl) (by kernel_rfl) (by kernel_rfl) (by rfl) d ?_
     try simp only [az]
     refine nJ (i:=21) rfl (by kernel_rfl) (by kernel_rfl) (by kernel_rfl) (by rfl) d ?_
     try simp only [az]
     refine nJ (i:=22) rfl (by kernel_rfl) (by kernel_rfl) (by kernel_rfl) (by rfl) d ?_
     try simp only [az]
     refine nJ (i:=23) rfl (by kernel_rfl) (by kernel_rfl) (by kernel_rfl) (by rfl) d ?_
     try simp only [az]
     refine bZ (i:=24) (v:=?q3v24) rfl (by kernel_rfl) (by kernel_rfl) (by kernel_rfl) (by rfl) ?OC d ?q3r24
     case OC=>(rintro f ⟨⟨g,j,n⟩,⟨q,t,u⟩,c⟩;go_simp<;>with_reducible rfl)
     try simp only [az]
     refine wpAnyH_done (by kernel_rfl) ?_ _
     refine NoPanic.normal ?_
     obtain ⟨_,_,A⟩:=d;go_wp2;go_ret;exact ⟨by first | rfl | (rw [C.o];rfl),A⟩
    ·have M:aL (fun f=>(f.cell? ⟨F,G+k*3,none⟩=some (.bool true)∧f.cell? ⟨F,G+k*3+1,none⟩=some (.int .i64 N)∧f.cell? ⟨F,G+k*3+2,none⟩=some (.slice P Q R))∧(f.cell? ⟨I,J+k*3,none⟩=some (.bool true)∧f.cell? ⟨I,J+k*3+1,none⟩=some (.int .i64 W)∧f.cell? ⟨I,J+k*3+2,none⟩=some (.slice S U V))∧ah w f):=((aR _ _).and ((aR _ _).and (aR _ _))).and (((aR _ _).and ((aR _ _).and (aR _ _))).and (jW _))
     go_wp2;refine gH M (by kernel_rfl) ⟨⟨Y,Z,q1⟩,⟨r0,D,r1⟩,z⟩ ?_
     intro d;refine bZ (i:=0) (v:=?q4v0) rfl (by kernel_rfl) (by kernel_rfl) (by kernel_rfl) (by rfl) ?q4y0 d ?q4r0
     case q4y0=>(rintro f ⟨⟨g,j,n⟩,⟨q,t,u⟩,c⟩;go_simp<;>with_reducible rfl)
     try simp only [az]
     refine bZ (i:=1) (v:=?q4v1) rfl (by kernel_rfl) (by kernel_rfl) (by kernel_rfl) (by rfl) ?q4y1 d ?q4r1
     case q4y1=>(rintro f ⟨⟨g,j,n⟩,⟨q,t,u⟩,c⟩;go_simp<;>with_reducible rfl)
     try simp only [az]
     refine bZ (i:=2) (v:=?q4v2) rfl (by kernel_rfl) (by kernel_rfl) (by kernel_rfl) (by rfl) ?q4y2 d ?q4r2
     case q4y2=>(rintro f ⟨⟨g,j,n⟩,⟨q,t,u⟩,c⟩;go_simp<;>with_reducible rfl)
     try simp only [az]
     refine bZ (i:=3) (v:=?q4v3) rfl (by kernel_rfl) (by kernel_rfl) (by kernel_rfl) (by rfl) ?q4y3 d ?q4r3
     case q4y3=>(rintro f ⟨⟨g,j,n⟩,⟨q,t,u⟩,c⟩;go_simp<;>with_reducible rfl)
     try simp only [az]
     refine bZ (i:=4) (v:=?q4v4) rfl (by kernel_rfl) (by kernel_rfl) (by kernel_rfl) (by rfl) ?q4y4 d ?q4r4
     case q4y4=>(rintro f ⟨⟨g,j,n⟩,⟨q,t,u⟩,c⟩;go_simp<;>with_reducible rfl)
     try simp only [az]
     refine bZ (i:=5) (v:=?q4v5) rfl (by kernel_rfl) (by kernel_rfl) (by kernel_rfl) (by rfl) ?q4y5 d ?q4r5
     case q4y5=>(rintro f ⟨⟨g,j,n⟩,⟨q,t,u⟩,c⟩;go_simp<;>with_reducible rfl)
     try simp only [az]
     refine bZ (i:=6) (v:=?q4v6) rfl (by kernel_rfl) (by kernel_rfl) (by kernel_rfl) (by rfl) ?q4y6 d ?q4r6
     case q4y6=>(rintro f ⟨⟨g,j,n⟩,⟨q,t,u⟩,c⟩;go_simp<;>with_reducible rfl)
     try simp only [az]
     refine bZ (i:=7) (v:=?q4v7) rfl (by kernel_rfl) (by kernel_rfl) (by kernel_rfl) (by rfl) ?q4y7 d ?q4r7
     case q4y7=>(rintro f ⟨⟨g,j,n⟩,⟨q,t,u⟩,c⟩;go_simp<;>with_reducible rfl)
     try simp only [az]
     refine bZ (i:=8) (v:=?q4v8) rfl (by kernel_rfl) (by kernel_rfl) (by kernel_rfl) (by rfl) ?q4y8 d ?q4r8
     case q4y8=>(rintro f ⟨⟨g,j,n⟩,⟨q,t,u⟩,c⟩;go_simp<;>with_reducible rfl)
     try simp only [az]
     refine bZ (i:=9) (v:=?q4v9) rfl (by kernel_rfl) (by kernel_rfl) (by kernel_rfl) (by rfl) ?q4y9 d ?q4r9
     case q4y9=>(rintro f ⟨⟨g,j,n⟩,⟨q,t,u⟩,c⟩;go_simp<;>with_reducible rfl)
     try simp only [az]
     refine bZ (i:=10) (v:=?OD) rfl (by kernel_rfl) (by kernel_rfl) (by kernel_rfl) (by rfl) ?zK d ?OE
     case zK=>(rintro f ⟨⟨g,j,n⟩,⟨q,t,u⟩,c⟩;go_simp<;>with_reducible rfl)
     try simp only [az]
     refine bZ (i:=11) (v:=?q4v11) rfl (by kernel_rfl) (by kernel_rfl) (by kernel_rfl) (by rfl) ?OG d ?q4r11
     case OG=>(rintro f ⟨⟨g,j,n⟩,⟨q,t,u⟩,c⟩;go_simp<;>with_reducible rfl)
     try simp only [az]
     refine bZ (i:=12) (v:=?q4v12) rfl (by kernel_rfl) (by kernel_rfl) (by kernel_rfl) (by rfl) ?OH d ?q4r12
     case OH=>(rintro f ⟨⟨g,j,n⟩,⟨q,t,u⟩,c⟩;go_simp<;>with_reducible rfl)
     try simp only [az]
     refine bZ (i:=13) (v:=?q4v13) rfl (by kernel_rfl) (by kernel_rfl) (by kernel_rfl) (by rfl) ?OI d ?q4r13
     case OI=>(rintro f ⟨⟨g,j,n⟩,⟨q,t,u⟩,c⟩;go_simp<;>with_reducible rfl)
     try simp only [az]
     refine bZ (i:=14) (v:=?q4v14) rfl (by kernel_rfl) (by kernel_rfl) (by kernel_rfl) (by rfl) ?OJ d ?q4r14
     case OJ=>(rintro f ⟨⟨g,j,n⟩,⟨q,t,u⟩,c⟩;go_simp<;>with_reducible rfl)
     try simp only [az]
     refine bZ (i:=15) (v:=?q4v15) rfl (by kernel_rfl) (by kernel_rfl) (by kernel_rfl) (by rfl) ?OL d ?q4r15
     case OL=>(rintro f ⟨⟨g,j,n⟩,⟨q,t,u⟩,c⟩;go_simp<;>with_reducible rfl)
     try simp only [az]
     refine bZ (i:=16) (v:=?q4v16) rfl (by kernel_rfl) (by kernel_rfl) (by kernel_rfl) (by rfl) ?OM d ?q4r16
     case OM=>(rintro f ⟨⟨g,j,n⟩,⟨q,t,u⟩,c⟩;go_simp<;>with_reducible rfl)
     try simp only [az]
     refine bZ (i:=17) (v:=?q4v17) rfl (by kernel_rfl) (by kernel_rfl) (by kernel_rfl) (by rfl) ?OO d ?q4r17
     case OO=>(rintro f ⟨⟨g,j,n⟩,⟨q,t,u⟩,c⟩;go_simp<;>with_reducible rfl)
     try simp only [az]
     refine bZ (i:=18) (v:=?q4v18) rfl (by kernel_rfl) (by kernel_rfl) (by kernel_rfl) (by rfl) ?OP d ?q4r18
     case OP=>(rintro f ⟨⟨g,j,n⟩,⟨q,t,u⟩,c⟩;go_simp<;>with_reducible rfl)
     try simp only [az]
     refine bZ (i:=19) (v:=?q4v19) rfl (by kernel_rfl) (by kernel_rfl) (by kernel_rfl) (by rfl) ?OQ d ?q4r19
     case OQ=>(rintro f ⟨⟨g,j,n⟩,⟨q,t,u⟩,c⟩;go_simp<;>with_reducible rfl)
     try simp only [az]
     refine bZ (i:=20) (v:=?q4v20) rfl (by kernel_rfl) (by kernel_rfl) (by kernel_rfl) (by rfl) ?OT d ?q4r20
     case OT=>(rintro f ⟨⟨g,j,n⟩,⟨q,t,u⟩,c⟩;go_simp<;>with_reducible rfl)
     try simp only [az]
     refine bZ (i:=21) (v:=?q4v21) rfl (by kernel_rfl) (by kernel_rfl) (by kernel_rfl) (by rfl) ?OU d ?q4r21
     case OU=>(rintro f ⟨⟨g,j,n⟩,⟨q,t,u⟩,c⟩;go_simp<;>with_reducible rfl)
     try simp only [az]
     refine qo M (i:=22) (v:=.bool r) rfl (by kernel_rfl) (by rfl) (by go_simp) d (CE E.o (Cz (N,L1) (W,L2) P S Q R U V _ (HQ.o.a (d.2.2.mono aI)) (HR.o.a (d.2.2.mono aI)))) ?_
     clear d;intro am d;try simp only [az]
     refine bZ (i:=23) (v:=?q4v23) rfl (by kernel_rfl) (by kernel_rfl) (by kernel_rfl) (by rfl) ?OV d ?q4r23
     case OV=>(rintro f ⟨⟨g,j,n⟩,⟨q,t,u⟩,c⟩;go_simp<;>with_reducible rfl)
     try simp only [az]
     refine bZ (i:=24) (v:=?q4v24) rfl (by kernel_rfl) (by kernel_rfl) (by kernel_rfl) (by rfl) ?OW d ?q4r24
     case OW=>(rintro f ⟨⟨g,j,n⟩,⟨q,t,u⟩,c⟩;go_simp<;>with_reducible rfl)
     try simp only [az]
     refine wpAnyH_done (by kernel_rfl) ?_ _
     refine NoPanic.normal ?_
     obtain ⟨_,_,A⟩:=d;cases r
     ·have C:=ag (show decide (l=m)=false by
       simp only [decide_eq_false_iff_not];intro e;have B:l[k]=m[k]:=by simp only [e]
       rw [HP.o,Cx.o] at B;injection B with _ B;have:=E.o
       rw [decide_eq_true B] at this;cases this)
      go_wp2;go_ret;exact ⟨by first | rfl | (rw [C.o];rfl),A⟩
     ·have C:=ag (show l[k]=m[k] by
       have h:=of_decide_eq_true E.o;rw [HP.o,Cx.o];injection h with h1 h2;rw [h1,h2])
      go_wp2;go_roundw
      case rel=>exact ⟨k+1,by omega,by go_num,by show _=_;rw [List.take_succ_eq_append_getElem L,List.take_succ_eq_append_getElem om,O.o,C.o],A⟩
      case measure=>simp [intOf]<;>omega
   ·have aa:decide ((k:Int)<n1)=false:=aA (by omega)
    have C:=ag (show decide (l=m)=true by
     have:=O.o
     rw [List.take_of_length_le (by have:=E1.o;omega),List.take_of_length_le (by have:=E2.o;omega)] at this;simpa using this)
    go_wp2;go_ret;exact ⟨by first | rfl | (rw [C.o];rfl),z⟩
 ·have ao:((n1:Int) !=n2)=true:=by simpa using (by omega:¬(n1:Int)=n2)
  have C:=ag (show decide (l=m)=false by
   simp only [decide_eq_false_iff_not];intro e;apply hn;rw [E1.o,E2.o,e])
  go_enter Tryz.func88,Tryz.ntmps88;go_wp2;go_ret;exact ⟨by first | rfl | (rw [C.o];rfl),aB⟩
end Go.Proofs.YthpammbgcidloaaGreat
