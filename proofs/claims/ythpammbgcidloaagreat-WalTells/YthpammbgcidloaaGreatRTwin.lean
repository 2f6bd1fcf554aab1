/-
  What the document's twinPut and TwinActs do: new memory that reads as what was handed in.
-/
import Derived.Test.YthpammbgcidloaaGreatL2d
set_option maxHeartbeats 1000000
set_option maxRecDepth 100000
namespace Go.Proofs.YthpammbgcidloaaGreat
open Go.RowKit
set_option linter.all false
theorem qpw (N:Int) (x:au) (m c:Nat) (l:ak) (q:Nat) (d:m=l.length) (w:World):
  Calls Tryz.prog 108 #[.int .i64 N,.slice x m c,.int .i64 q] w fun e w'=>e=.returned (.int .i64 (dP q (N,l)))∧ah w w':=by
 have a:af (dP q (N,l)=if N<0∨(q:Int)<=N then 2 else if m≠128 then 3 else 0):=by show _=_;rw [d];rfl
 clear d;generalize dP q (N,l)=r at a ⊢;by_cases f:N<0
 ·have b:=ag (show r=2 by rw [a.o,if_pos (.inl f)])
  clear a;go_enter Tryz.func108,Tryz.ntmps108;go_wp2;go_ret;exact ⟨by rw [b.o];rfl,aB⟩
 ·have h:decide (N<0)=false:=by simpa using f
  by_cases g:(q:Int)<=N
  ·have b:=ag (show r=2 by rw [a.o,if_pos (.inr g)])
   clear a;go_enter Tryz.func108,Tryz.ntmps108;go_wp2;go_ret;exact ⟨by rw [b.o];rfl,aB⟩
  ·have i:decide ((q:Int)<=N)=false:=by simpa using g
   have b:=ag (show r=if m≠128 then 3 else 0 by rw [a.o,if_neg (by omega)]);clear a;by_cases d:m=128
   ·subst d
    go_enter Tryz.func108,Tryz.ntmps108;go_wp2;go_ret;exact ⟨by rw [b.o];rfl,aB⟩
   ·have j:((m:Int) !=128)=true:=by simpa using (by omega:¬(m:Int)=128)
    go_enter Tryz.func108,Tryz.ntmps108;go_wp2;go_ret;exact ⟨by rw [b.o,if_pos d];rfl,aB⟩
theorem qafe (s:Bool) (N:Int) (x:au) (m c:Nat) (l:ak) (q:Nat) (d:m=l.length) (w:World):
  Calls Tryz.prog 109 #[.agg #[.bool s,.int .i64 N,.slice x m c],.int .i64 q] w fun e w'=>e=.returned (.int .i64 (bX q (s,N,l)))∧ah w w':=by
 have a:∀o,ah w (w.alloc o):=fun o=>(Below.refl w.heap.size w).alloc aI _
 cases s
 ·have n:=ag d
  clear d;go_enter Tryz.func109,Tryz.ntmps109;go_wp2_with fail
  refine (qpw N x m c l q n.o _).mono ?_
  rintro e u ⟨rfl,j⟩;have g:=(a _).trans (j.mono (by simp));clear j;go_wp2;go_ret;exact ⟨rfl,g⟩
 ·have b:af (bX q (true,N,l)=if N≠0∨l≠[] then 8 else 0):=rfl
  generalize bX q (true,N,l)=r at b ⊢;by_cases i:N=0
  ·subst i
   by_cases k:m=0
   ·have f:=ag (show r=0 by rw [b.o,if_neg];rintro (h | h);exact h rfl;exact h (List.length_eq_zero_iff.1 (by omega)))
    subst k;clear b d;go_enter Tryz.func109,Tryz.ntmps109;go_wp2;go_ret;exact ⟨by rw [f.o];rfl,a _⟩
   ·have f:=ag (show r=8 by rw [b.o,if_pos];exact .inr fun h=>k (by rw [d,h];rfl))
    clear b d;have p:((m:Int) !=0)=true:=by simpa using (by omega:¬(m:Int)=0)
    go_enter Tryz.func109,Tryz.ntmps109;go_wp2;go_ret;exact ⟨by rw [f.o];rfl,a _⟩
  ·have f:=ag (show r=8 by rw [b.o,if_pos (.inl i)])
   clear b d;have t:(N !=0)=true:=by simpa using i
   go_enter Tryz.func109,Tryz.ntmps109;go_wp2;go_ret;exact ⟨by rw [f.o];rfl,a _⟩
theorem OX (a a2 a3:au) (n1 c1 n2 c2 n3 c3:Nat) (b:n1<=maxLen) (w:World):
  Calls Tryz.prog 61 #[.agg #[.slice a n1 c1,.slice a2 n2 c2,.slice a3 n3 c3]] w fun e w'=>e=.returned (.int .i64 (n1 / 128:Nat))∧ah w w':=by
 unfold maxLen at b;go_enter Tryz.func61,Tryz.ntmps61;go_wp2;go_ret;have e:wrap64 ((n1:Int) / 128)=((n1 / 128:Nat):Int):=by unfold wrap64;omega
 exact ⟨by simp [e],ae⟩
theorem V9 {d:Dk} {v:Value} (w:World) (hD:RdD w v d):
  Calls Tryz.prog 60 #[v] w fun e w'=>e=.returned (.int .i64 (jD d))∧ah w w':=by
 obtain ⟨H,c1,a2,c2,a3,c3,rfl,M,N,O⟩:=hD.form;have J:d.1.length<=maxLen:=M.len_le;have W:d.2.1.length<=maxLen:=N.len_le;have mI:d.2.2.length<=maxLen:=O.len_le;have H2:=ag N;have H3:=ag O;clear hD M N O;generalize e1:d.1.length=n1 at *;generalize e2:d.2.1.length=n2 at *;generalize e3:d.2.2.length=n3 at *;have P:=ag e1;have Q:=ag e2;have R:=ag e3;clear e1 e2 e3;obtain ⟨q,S⟩:=ai (n1 / 128);have X:=ag (show bq d=q by rw [bq,P.o,S]);have HC:=ag (fun a2 a3 C j=>S ▸ OX H a2 a3 n1 c1 n2 C n3 c3 J j:∀(a2 a3:au) (C:Nat) j,Calls Tryz.prog 61 #[.agg #[.slice H n1 c1,.slice a2 n2 C,.slice a3 n3 c3]] j fun e w'=>e=.returned (.int .i64 q)∧ah j w');have Y:=ag S;clear S;unfold maxLen at J W mI;obtain ⟨I,Z⟩:=aj (w.alloc (.cells #[.slice H n1 c1,.slice a2 n2 c2,.slice a3 n3 c3] 26));have g:ah w I:=by rw [<-Z];exact ae
 have D:I.heap[w.heap.size]? =some (.cells #[.slice H n1 c1,.slice a2 n2 c2,.slice a3 n3 c3] 26 (0,0)):=by rw [<-Z];exact heap_alloc_new _ _
 obtain ⟨k0,k1,k2,_⟩:=cells3 D;have t:=ag (show ¬(d.1.length % 128=0∧1<=bq d∧bq d<=4096∧d.2.1.length<=65536∧d.2.2.length<=65536)->jD d=20 from fun h=>by unfold jD;rw [LC h];rfl);by_cases g1:n1<128
 ·have u:=ag (show jD d=20 from t.o (by have:=X.o;have:=Y.o;omega))
  have aa:(n1:Int)<128:=by omega
  go_enter Tryz.func60,Tryz.ntmps60;go_wp2;go_ret;exact ⟨by rw [u.o];rfl,g⟩
 have aa:decide ((n1:Int)<128)=false:=aA (by omega);by_cases g2:524288<n1
 ·have u:=ag (show jD d=20 from t.o (by have:=X.o;have:=Y.o;have:=P.o;omega))
  have ab:(524288:Int)<n1:=by omega
  go_enter Tryz.func60,Tryz.ntmps60;go_wp2;go_ret;exact ⟨by rw [u.o];rfl,g⟩
 have ab:decide ((524288:Int)<n1)=false:=aA (by omega);by_cases g3:n1 % 128=0
 case neg=>
  have u:=ag (show jD d=20 from t.o (by have:=P.o;omega));have ac:((n1:Int) % 128 !=0)=true:=by simpa using (by omega:¬(n1:Int) % 128=0)
  have K:wrap64 ((n1:Int) % 128)=(n1:Int) % 128:=by unfold wrap64;omega
  go_enter Tryz.func60,Tryz.ntmps60;go_wp2;go_ret;exact ⟨by rw [u.o];rfl,g⟩
 have ac:((n1:Int) % 128 !=0)=false:=by simpa using (by omega:(n1:Int) % 128=0)
 have K:wrap64 ((n1:Int) % 128)=0:=by unfold wrap64;omega
 by_cases g4:65536<n2
 ·have u:=ag (show jD d=20 from t.o (by have:=Q.o;omega))
  have ad:(65536:Int)<n2:=by omega
  go_enter Tryz.func60,Tryz.ntmps60;go_wp2;go_ret;exact ⟨by rw [u.o];rfl,g⟩
 have ad:decide ((65536:Int)<n2)=false:=aA (by omega);by_cases g5:65536<n3
 ·have u:=ag (show jD d=20 from t.o (by have:=R.o;omega))
  have BB:(65536:Int)<n3:=by omega
  go_enter Tryz.func60,Tryz.ntmps60;go_wp2;go_ret;exact ⟨by rw [u.o];rfl,g⟩
 have BB:decide ((65536:Int)<n3)=false:=aA (by omega);have HO:af (okD d=(d.2.1.all (fun p=>decide (dP q p=0)) && d.2.2.all (fun a=>decide (bX q a=0)))):=by
  show _=_
  have M:=X.o;have N:=Y.o;have O:=P.o;have h4:=Q.o;have h5:=R.o;simp only [okD,M];rw [decide_eq_true (by omega:d.1.length % 128=0),decide_eq_true (by omega:1<=q),decide_eq_true (by omega:q<=4096),decide_eq_true (by omega:d.2.1.length<=65536),decide_eq_true (by omega:d.2.2.length<=65536)];simp
 have Zp:=ag (H2.o.a g);have al:=ag (H3.o.a g);go_enter Tryz.func60,Tryz.ntmps60;go_wp2;clear Z;go_loopw [3] (fun i wr=>∃k:Nat,k<=n2∧i=.int .i64 k∧af (∀p∈d.2.1.take k,dP q p=0)∧ah I wr) (fun i _=>n2 - (intOf i).toNat)
 case atStart=>exact ⟨0,Nat.zero_le _,rfl,ag (by simp),aB⟩
 case round=>
  obtain ⟨k,hk,rfl,r,f⟩:=hrel;have E:ah w wr:=g.trans (f.mono g.size);obtain ⟨T,U,V,_⟩:=cells3 (eH _ _ _ _ D f);by_cases am:k<n2
  ·have z:(k:Int)<n2:=by omega
   have y:k<d.2.1.length:=by have:=Q.o;omega
   obtain ⟨b,l,rfl,q0,x,m,c,q1,q2,L⟩:=(Zp.o.a f).at k y;have HX:=ag L;clear q2 L;have B:aL (fun j=>(j.cell? ⟨w.heap.size,0,none⟩=some (.slice H n1 c1)∧j.cell? ⟨w.heap.size,1,none⟩=some (.slice (some ⟨b,l,none⟩) n2 c2)∧j.cell? ⟨w.heap.size,2,none⟩=some (.slice a3 n3 c3))∧(j.cell? ⟨b,l+k*2,none⟩=some (.int .i64 (d.2.1[k]).1)∧j.cell? ⟨b,l+k*2+1,none⟩=some (.slice x m c))∧ah I j):=((aR _ _).and ((aR _ _).and (aR _ _))).and (((aR _ _).and (aR _ _)).and (jW _));go_wp2;refine gH B (by kernel_rfl) ⟨⟨T,U,V⟩,⟨q0,q1⟩,f⟩ ?_
   intro s;refine dm [0,1,2,3,4,5,6,7,8,9,10,11,12] (fuel:=3) (a':=?iD) (by kernel_rfl) (by kernel_rfl) (by kernel_rfl) ?dn s ?iE
   case dn=>
    iterate 13 (apply Yl.cons rfl (by kernel_rfl);focus (rintro j ⟨⟨x1,x2,x3⟩,⟨y1,y2⟩,F⟩;go_simp<;>with_reducible rfl);try simp only [az])
    exact Yl.nil
   refine qo B (i:=13) (v:=.int .i64 q) rfl (by kernel_rfl) (by rfl) (by go_simp) s (HC.o (some ⟨b,l,none⟩) a3 c2 _) ?_
   clear s;intro ao s;try simp only [az]
   refine qo B (i:=14) (v:=.int .i64 (dP q d.2.1[k])) rfl (by kernel_rfl) (by rfl) (by go_simp) s (qpw _ x m c (d.2.1[k]).2 q HX.o _) ?_
   clear s;intro ap s;try simp only [az]
   refine bZ (i:=15) (v:=?qav15) rfl (by kernel_rfl) (by kernel_rfl) (by kernel_rfl) (by rfl) ?OY s ?qar15
   case OY=>(rintro j ⟨⟨x1,x2,x3⟩,⟨y1,y2⟩,F⟩;go_simp<;>with_reducible rfl)
   try simp only [az]
   refine wpAnyH_done (by kernel_rfl) ?_ _
   refine NoPanic.normal ?_
   obtain ⟨_,_,A⟩:=s;clear B;have G:=g.trans (A.mono g.size);by_cases n:dP q d.2.1[k]=0
   ·rw [n]
    have HP:=ag n;clear n;go_wp2;go_roundw
    case rel=>
     refine ⟨k+1,by omega,by go_num,ag ?_,A⟩;intro p n;rw [List.take_succ_eq_append_getElem y] at n;rcases List.mem_append.1 n with h | h
     ·exact r.o p h
     ·rw [List.mem_singleton.1 h];exact HP.o
    case measure=>simp [intOf]<;>omega
   ·have u:=ag (show jD d=20 by
     unfold jD;rw [HO.o,Bool.and_eq_false_iff.2 (.inl (List.all_eq_false.2 ⟨d.2.1[k],List.getElem_mem y,by simpa using n⟩))];rfl)
    have an:(dP q d.2.1[k] !=0)=true:=by simpa using n
    generalize dP q d.2.1[k]=pe at *;go_wp2;go_ret;exact ⟨by rw [u.o];rfl,G⟩
  ·have HA:=ag (show d.2.1.all (fun p=>decide (dP q p=0))=true by
    rw [List.all_eq_true];intro p n;have:=r.o
    rw [List.take_of_length_le (by have:=Q.o;omega)] at this;simpa using this p n)
   have z:decide ((k:Int)<n2)=false:=aA (by omega);clear r;go_wp2;go_loopw [4] (fun i wq=>∃k:Nat,k<=n3∧i=.int .i64 k∧af (∀p∈d.2.2.take k,bX q p=0)∧ah I wq) (fun i _=>n3 - (intOf i).toNat)
   case atStart=>exact ⟨0,Nat.zero_le _,rfl,ag (by simp),f⟩
   case round=>
    clear T U V f E;obtain ⟨k,hk,rfl,r,f⟩:=hrel;have E:=g.trans (f.mono g.size);obtain ⟨T,U,V,_⟩:=cells3 (eH _ _ _ _ D f);by_cases am:k<n3
    ·have z:(k:Int)<n3:=by omega
     have y:k<d.2.2.length:=by have:=R.o;omega
     obtain ⟨b,l,rfl,q0,lI,x,m,c,q1,q2,L⟩:=(al.o.a f).at k y;have HX:=ag L;clear q2 L;have B:aL (fun j=>(j.cell? ⟨w.heap.size,0,none⟩=some (.slice H n1 c1)∧j.cell? ⟨w.heap.size,1,none⟩=some (.slice a2 n2 c2)∧j.cell? ⟨w.heap.size,2,none⟩=some (.slice (some ⟨b,l,none⟩) n3 c3))∧(j.cell? ⟨b,l+k*3,none⟩=some (.bool (d.2.2[k]).1)∧j.cell? ⟨b,l+k*3+1,none⟩=some (.int .i64 (d.2.2[k]).2.1)∧j.cell? ⟨b,l+k*3+2,none⟩=some (.slice x m c))∧ah I j):=((aR _ _).and ((aR _ _).and (aR _ _))).and (((aR _ _).and ((aR _ _).and (aR _ _))).and (jW _));go_wp2;refine gH B (by kernel_rfl) ⟨⟨T,U,V⟩,⟨q0,lI,q1⟩,f⟩ ?_
     intro s;refine dm [0,1,2,3,4,5] (fuel:=3) (a':=?lM) (by kernel_rfl) (by kernel_rfl) (by kernel_rfl) ?fU s ?lN
     case fU=>
      iterate 6 (apply Yl.cons rfl (by kernel_rfl);focus (rintro j ⟨⟨x1,x2,x3⟩,⟨y1,y2,y3⟩,F⟩;go_simp<;>with_reducible rfl);try simp only [az])
      exact Yl.nil
     refine qo B (i:=6) (v:=.int .i64 q) rfl (by kernel_rfl) (by rfl) (by go_simp) s (HC.o a2 (some ⟨b,l,none⟩) c2 _) ?_
     clear s;intro aq s;try simp only [az]
     refine qo B (i:=7) (v:=.int .i64 (bX q d.2.2[k])) rfl (by kernel_rfl) (by rfl) (by go_simp) s (qafe _ _ x m c (d.2.2[k]).2.2 q HX.o _) ?_
     clear s;intro ar s;try simp only [az]
     refine bZ (i:=8) (v:=?qbv8) rfl (by kernel_rfl) (by kernel_rfl) (by kernel_rfl) (by rfl) ?qby8 s ?qbr8
     case qby8=>(rintro j ⟨⟨x1,x2,x3⟩,⟨y1,y2,y3⟩,F⟩;go_simp<;>with_reducible rfl)
     try simp only [az]
     refine wpAnyH_done (by kernel_rfl) ?_ _
     refine NoPanic.normal ?_
     obtain ⟨_,_,A⟩:=s;clear B;have G:=g.trans (A.mono g.size);by_cases n:bX q d.2.2[k]=0
     ·rw [n]
      have HP:=ag n;clear n;go_wp2;go_roundw
      case rel=>
       refine ⟨k+1,by omega,by go_num,ag ?_,A⟩;intro p n;rw [List.take_succ_eq_append_getElem y] at n;rcases List.mem_append.1 n with h | h
       ·exact r.o p h
       ·rw [List.mem_singleton.1 h];exact HP.o
      case measure=>simp [intOf]<;>omega
     ·have u:=ag (show jD d=20 by
       unfold jD;rw [HO.o,Bool.and_eq_false_iff.2 (.inr (List.all_eq_false.2 ⟨d.2.2[k],List.getElem_mem y,by simpa using n⟩))];rfl)
      have an:(bX q d.2.2[k] !=0)=true:=by simpa using n
      generalize bX q d.2.2[k]=pe at *;go_wp2;go_ret;exact ⟨by rw [u.o];rfl,G⟩
    ·have z:decide ((k:Int)<n3)=false:=aA (by omega)
     have u:=ag (show jD d=0 by
      unfold jD;rw [HO.o,HA.o,show d.2.2.all (fun p=>decide (bX q p=0))=true by
       rw [List.all_eq_true];intro p n;have:=r.o
       rw [List.take_of_length_le (by have:=R.o;omega)] at this;simpa using this p n]
      rfl)
     go_wp2;go_ret;exact ⟨by rw [u.o];rfl,E⟩
theorem Wd (w:World) (base:Nat) (hb:base<=w.heap.size) (v:Value) (l:ak) (a:aX w base v l) (x:Value) (d:ak) (m:Rd w x d) (g:l.length+d.length<=140737488355328):
  ∃f w',(Builtin.append_ #[22,22] 22 #[v,x]).run Tryz.prog w=.ok f w'∧aX w' base f (l++d)∧w.grownBy w' v.ownBlock:=by
 obtain ⟨n,o,h,i,k⟩:=info_parts Tryz.infoB;rcases m with ⟨rfl,rfl | ⟨z,c,rfl⟩⟩ | ⟨b,p,c,rfl,B,C,e⟩
 ·refine ⟨v,w,run_append_owned_none (P:=Tryz.prog) w base 22 22 5 n 1 Tryz.underlying22 o v l.length (bW l) a,by simpa using a,World.grownBy.refl _ _⟩
 ·obtain ⟨f,w',q,r,s,_⟩:=run_append_own (P:=Tryz.prog) w base 22 22 5 n _ 1 1 Tryz.underlying22 o h i k rfl (by decide) v l.length (bW l) a z 0 c [] rfl (by intro j u t;simp at t) (by intro u A;simp at A) (by have:=a.rd.len_le;omega) (by simp at g;omega) hb
  refine ⟨f,w',q, ?_,s⟩;show World.ownsRow _ _ _ _ _ _ _
  simpa using r
 ·obtain ⟨f,w',q,r,s,_⟩:=run_append_own (P:=Tryz.prog) w base 22 22 5 n _ 1 1 Tryz.underlying22 o h i k rfl (by decide) v l.length (bW l) a ⟨b,p,none⟩ d.length c (bW d) (by simp [bW]) (by
   intro j u t;obtain ⟨y,rfl⟩:=FD d j u t;rw [Addr.add_lit];exact e j y) (FC d) (by unfold maxLen;omega) (by omega) hb
  refine ⟨f,w',q, ?_,s⟩;show World.ownsRow _ _ _ _ _ _ _
  rw [List.length_append,M5];exact r
theorem OZ (N:Int) (x:au) (m d:Nat) (l:ak) (w:World) (I:m=l.length) (J:l.length<=140737488355328) (n:Rd w (.slice x m d) l):
  Calls Tryz.prog 47 #[.agg #[.int .i64 N,.slice x m d]] w fun e w'=>∃v,e=.returned (.agg #[.int .i64 N,v])∧aX w' w.heap.size v l∧ah w w':=by
 have R:=ag n;have W:=ag I;have S:=ag J;clear n I J;obtain ⟨b,h⟩:=aj ((w.alloc (.cells #[.int .i64 N,.slice x m d] 94)).alloc (.cells #[.int .i64 0,.slice none 0 0] 94));have B:ah w b:=by rw [<-h];exact (ae).alloc (by simp) _
 have p:b.cell? ⟨w.heap.size,0,none⟩=some (.int .i64 N):=by rw [<-h];simp
 have q:b.cell? ⟨w.heap.size,1,none⟩=some (.slice x m d):=by rw [<-h];simp
 have r:b.heap[w.heap.size+1]? =some (.cells #[.int .i64 0,.slice none 0 0] 94 (0,0)):=by rw [<-h];exact pq _ _ _
 have s:w.heap.size+2<=b.heap.size:=by rw [<-h];simp
 go_enter Tryz.func47,Tryz.ntmps47;go_wp2;clear h;have K:aL (fun g=>g.cell? ⟨w.heap.size,0,none⟩=some (.int .i64 N)∧g.cell? ⟨w.heap.size,1,none⟩=some (.slice x m d)∧(∃L M,g.heap[w.heap.size+1]? =some (.cells #[L,M] 94 (0,0)))∧ah w g∧w.heap.size+2<=g.heap.size):=(aR _ _).and ((aR _ _).and ((qj7 _ _).and ((jW w).and (FK _))));refine gH K (by kernel_rfl) ⟨p,q,⟨_,_,r⟩,B,s⟩ ?_
 intro c;refine dm [0,1,2,3] (fuel:=3) (a':=?iD) (by kernel_rfl) (by kernel_rfl) (by kernel_rfl) ?dn c ?iE
 case dn=>
  iterate 4 (apply Yl.cons rfl (by kernel_rfl);focus (rintro g ⟨C,D,A,j,E⟩;go_simp<;>with_reducible rfl);try simp only [az])
  exact Yl.nil
 obtain ⟨X,O,f,t,F⟩:=Wd b.drew (w.heap.size+2) (by simpa using c.2.2.2.2) (.slice none 0 0) [] (World.ownsRow_nil _ _ _ _) (.slice x m d) l (R.o.a c.2.2.2.1) (by simpa using S.o);obtain ⟨G,H,rfl⟩:=t.form;have T:Below b.drew.heap.size b.drew O:=aB.grown F aI (fun k u=>by cases u);have P:=K _ _ c T;refine uS (i:=4) (v:=.slice G ([]++l).length H) (w':=O) rfl (by kernel_rfl) (by rfl) (BG (v:=.slice none 0 0) (y:=.slice x m d) rfl rfl rfl f) P ?_
 clear c f;have c:=P;try simp only [az]
 refine bZ (i:=5) (v:=?Nf) rfl (by kernel_rfl) (by kernel_rfl) (by kernel_rfl) (by rfl) ?zq c ?Ng
 case zq=>(rintro g ⟨C,D,A,j,E⟩;go_simp<;>with_reducible rfl)
 try simp only [az]
 obtain ⟨C,D,⟨L,M,A⟩,j,E⟩:=c;obtain ⟨ws,Q,z,a⟩:=qzp (.int .i64 N) (.slice G l.length H) A;obtain ⟨Y,Z,z3⟩:=Nc A;refine nL (i:=6) (w':=ws) rfl (by kernel_rfl) (by rfl) (by rw [<-Q];go_simp) ⟨a.cell C (by simp),a.cell D (by simp),⟨_,_,z⟩,j.grown a j.size (fun k u=>by cases u;simp),aC E a.size⟩ ?_
 try simp only [az]
 refine wpAnyH_done (by kernel_rfl) ?_ _
 refine NoPanic.normal ?_
 have U:ah w ws:=j.grown a j.size (fun k u=>by cases u;simp);have V:=t.grown a (by simp);obtain ⟨q1,q2,_⟩:=Nc z;clear Q p q r s;go_wp2;refine bodyPost_ret (v:=.agg #[.int .i64 N,.slice G l.length H]) ?_ rfl ⟨_,rfl,V.mono (by omega),U⟩
 simp [results,Tryz.results47,go_sem, *]
theorem qr0 (a:au) (n c:Nat) (l:List Ac) (w:World) (hn:n=l.length) (hl:l.length<=1000000) (hd:∀p∈l,p.2.2.length<=140737488355328) (H:RdA w (.slice a n c) l):
  Calls Tryz.prog 48 #[.slice a n c] w fun e w'=>∃v,e=.returned v∧lQ w' w.heap.size v l∧ah w w':=by
 have HC:=ag H;have Y:=ag hn;have HD:=ag hd;have ab:n<=1000000:=by omega
 clear H hn hl hd;go_enter Tryz.func48,Tryz.ntmps48;go_wp2;go_loopw [3,4] (fun v i wr=>∃(k:Nat) (z:List (Ac × Value)),k<=n∧i=.int .i64 k∧af (z.map (·.1)=l.take k)∧af (wr.ownsRow w.heap.size 151 3 v z.length (uY z))∧af (∀p∈z,aX wr w.heap.size p.2 p.1.2.2)∧ah w wr) (fun _ i _=>n - (intOf i).toNat)
 case atStart=>exact ⟨0,[],Nat.zero_le _,rfl,rfl,World.ownsRow_nil _ _ _ _,by show ∀p∈_,_;simp,aB⟩
 case round=>
  obtain ⟨k,z,hk,rfl,N,O,hp,d⟩:=hrel;by_cases ac:k<n
  ·have I:(k:Int)<n:=by omega
   have B:k<l.length:=by have:=Y.o;omega
   have ad:z.length=k:=by
    have:=congrArg List.length N.o
    rw [List.length_map,List.length_take] at this;omega
   obtain ⟨b,f,rfl,Q,Z,x,m,S,q1,q2,q3⟩:=HC.o.at k B;have C:b<w.heap.size:=World.block_lt_of_cell? w _ Q;have C0:=ag Q;have C1:=ag Z;have C2:=ag q1;have HQ:=ag (q2.a d);have yE:=ag q3;have T:aL (fun g=>g.cell? ⟨b,f+k*3,none⟩=some (.bool (l[k]).1)∧g.cell? ⟨b,f+k*3+1,none⟩=some (.int .i64 (l[k]).2.1)∧g.cell? ⟨b,f+k*3+2,none⟩=some (.slice x m S)∧ah w g):=(aR _ _).and ((aR _ _).and ((aR _ _).and (jW _)));have D:(fun g=>g.cell? ⟨b,f+k*3,none⟩=some (.bool (l[k]).1)∧g.cell? ⟨b,f+k*3+1,none⟩=some (.int .i64 (l[k]).2.1)∧g.cell? ⟨b,f+k*3+2,none⟩=some (.slice x m S)∧ah w g) wr:=⟨aR _ _ _ _ Q d,aR _ _ _ _ Z d,aR _ _ _ _ q1 d,d⟩;clear Q Z q1 q2 q3;go_wp2;refine gH T (by kernel_rfl) D ?_
   intro r;refine dm [0,1,2,3,4,5,6,7,8,9,10] (fuel:=5) (a':=?lM) (by kernel_rfl) (by kernel_rfl) (by kernel_rfl) ?fU r ?lN
   case fU=>
    iterate 11 (apply Yl.cons rfl (by kernel_rfl);focus (rintro g ⟨x1,x2,x3,x4⟩;go_simp<;>with_reducible rfl);try simp only [az])
    exact Yl.nil
   refine nZ (i:=11) (R:=fun v wy=>∃p U,v=.agg #[.int .i64 (l[k]).2.1,.slice p (l[k]).2.2.length U]∧aX wy wr.heap.size (.slice p (l[k]).2.2.length U) (l[k]).2.2∧ah wr wy) rfl (by kernel_rfl) (by rfl) (by go_simp) ((OZ (l[k]).2.1 x m S (l[k]).2.2 wr.drew yE.o (HD.o _ (List.getElem_mem B)) (HQ.o.a aG)).mono fun e wy ⟨v,h1,h2,h3⟩=>by obtain ⟨p,U,rfl⟩:=h2.form;exact ⟨_,h1,p,U,rfl,h2,aB.drew.trans h3⟩) ?_
   rintro al s ⟨E,F,rfl,mi,bH⟩;have eu:=T _ _ D bH;refine ⟨eu, ?_⟩;clear r;have r:=eu;try simp only [az]
   refine bZ (i:=12) (v:=?qtv12) rfl (by kernel_rfl) (by kernel_rfl) (by kernel_rfl) (by rfl) ?O0 r ?qtr12
   case O0=>(rintro g ⟨x1,x2,x3,x4⟩;go_simp<;>with_reducible rfl)
   try simp only [az]
   refine uS (i:=13) (v:=.slice (some ⟨s.heap.size,0,none⟩) 1 1) (w':=s.alloc (.cells #[.bool (l[k]).1,.int .i64 (l[k]).2.1,.slice E (l[k]).2.2.length F] 151)) rfl (by kernel_rfl) (by rfl) (by go_simp) (T _ _ r (ae)) ?_
   obtain ⟨V,jE⟩:=ai (s.alloc (.cells #[.bool (l[k]).1,.int .i64 (l[k]).2.1,.slice E (l[k]).2.2.length F] 151));rw [<-jE];have dD:ah s V:=by rw [jE];exact ae
   have kW:∀j u,([Value.bool (l[k]).1,.int .i64 (l[k]).2.1,.slice E (l[k]).2.2.length F]:List Value)[j]? =some u->V.cell? ((⟨s.heap.size,0,none⟩:Addr).add j)=some u:=by
    intro j u J;rw [jE];have:=World.news_of_block (w:=s.alloc (.cells #[.bool (l[k]).1,.int .i64 (l[k]).2.1,.slice E (l[k]).2.2.length F] 151)) (heap_alloc_new s _) j u (by simpa using J)
    simpa using this
   have G:=bH.trans (dD.mono bH.size);obtain ⟨i0,hi,K,L,M⟩:=info_parts Tryz.infoAct;obtain ⟨v9,W,bD,aS,bF,_⟩:=run_append_own (P:=Tryz.prog) V w.heap.size 24 24 151 i0 _ 3 40 Tryz.underlying24 hi K L M rfl (by decide) _ _ _ (pW O.o G) ⟨s.heap.size,0,none⟩ 1 1 [.bool (l[k]).1,.int .i64 (l[k]).2.1,.slice E (l[k]).2.2.length F] rfl kW (by intro u hu;simp at hu;rcases hu with rfl | rfl | rfl<;>rfl) (by unfold maxLen;omega) (by omega) (aC d.size G.size);have A:∀j,(u3).ownBlock=some j->∃cs t fr,V.heap[j]? =some (.cells cs t fr)∧t≠5:=fun j J=>by
    obtain ⟨cs,h⟩:=vk (pW O.o G) j J;exact ⟨cs,_,_,h,by decide⟩
   have bI:ah w W:=(d.trans (G.mono d.size)).grown bF (aC d.size G.size) (fun j J=>(O.o.lt j J).1);have q:∀(X:Nat) (oo:Nat) (u:Value),X<w.heap.size->w.cell? ⟨X,oo,none⟩=some u->W.cell? ⟨X,oo,none⟩=some u:=fun X oo u h1 h2=>by rw [bI.cell h1];exact h2
   have bO:(fun g=>g.cell? ⟨b,f+k*3,none⟩=some (.bool (l[k]).1)∧g.cell? ⟨b,f+k*3+1,none⟩=some (.int .i64 (l[k]).2.1)∧g.cell? ⟨b,f+k*3+2,none⟩=some (.slice x m S)∧ah w g) W:=⟨q _ _ _ C C0.o,q _ _ _ C C1.o,q _ _ _ C C2.o,bI⟩;clear hi K L M kW;try simp only [az]
   refine uS (i:=14) (v:=v9) (w':=W) rfl (by kernel_rfl) (by rfl) (BG (v:=u3) (y:=.slice (some ⟨s.heap.size,0,none⟩) 1 1) rfl rfl rfl bD) bO ?_
   clear r;have r:=bO;try simp only [az]
   refine bZ (i:=15) (v:=?qtv15) rfl (by kernel_rfl) (by kernel_rfl) (by kernel_rfl) (by rfl) ?O4 r ?qtr15
   case O4=>(rintro g ⟨x1,x2,x3,x4⟩;go_simp<;>with_reducible rfl)
   try simp only [az]
   refine wpAnyH_done (by kernel_rfl) ?_ _
   refine NoPanic.normal ?_
   clear r eu bO D T bD;go_wp2;go_roundw
   case rel=>
    refine ⟨k+1,z++[(l[k],.slice E (l[k]).2.2.length F)],by omega,by go_num, ?_, ?_, ?_,bI⟩
    ·show _=_
     rw [List.map_append,N.o,List.take_succ_eq_append_getElem B];rfl
    ·show World.ownsRow _ _ _ _ _ _ _
     rw [YH,List.length_append];exact aS
    ·intro p aa
     rcases List.mem_append.1 aa with h | h
     ·exact ((hp.o p h).a G).keptT bF A
     ·rw [List.mem_singleton.1 h];exact ((mi.a dD).keptT bF A).mono d.size
   case measure=>simp [intOf]<;>omega
  ·have I:decide ((k:Int)<n)=false:=aA (by omega)
   go_wp2;go_ret;refine ⟨_,rfl,⟨z, ?_, ?_,hp.o⟩,d⟩
   ·rw [N.o,List.take_of_length_le (by have:=Y.o;omega)]
   ·have e:l.length=z.length:=by
     have:=congrArg List.length N.o
     rw [List.length_map,List.length_take] at this;have:=Y.o
     omega
    rw [e];exact O.o
end Go.Proofs.YthpammbgcidloaaGreat
