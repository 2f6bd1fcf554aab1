/-
  Rows of writes and of acts of one's own, and disks of one's own.
-/
import Derived.Test.YthpammbgcidloaaGreatBase
import Derived.WalkSpells
import Derived.WalkLawsBesides
import Derived.Lib.SliceRun
set_option maxHeartbeats 1000000
set_option maxRecDepth 100000
namespace Go.Proofs.YthpammbgcidloaaGreat
open Go.RowKit
set_option linter.all false
theorem M9 (a a2 a3:au) (n1 c1 n2 c2 n3 c3:Nat) (b:n1<=maxLen) (w:World):
  Calls Tryz.prog 171 #[.agg #[.slice a n1 c1,.slice a2 n2 c2,.slice a3 n3 c3]] w fun e w'=>e=.returned (.int .i64 (n1 / 128:Nat))∧ah w w':=by
 unfold maxLen at b;go_enter Tryz.func171,Tryz.ntmps171;go_wp2;go_ret;have e:wrap64 ((n1:Int) / 128)=((n1 / 128:Nat):Int):=by unfold wrap64;omega
 exact ⟨by simp [e],ae⟩
theorem qj5 (p a2 a3:au) (n1 c1 n2 c2 n3 c3:Nat) (y:n1<=maxLen) (N:Int) (x:au) (m d:Nat) (l:ak) (t:m=l.length) (w:World):
  Calls Tryz.prog 204 #[.agg #[.slice p n1 c1,.slice a2 n2 c2,.slice a3 n3 c3],.agg #[.int .i64 N,.slice x m d]] w fun e w'=>e=.returned (.int .i64 (dP (n1 / 128) (N,l)))∧ah w w':=by
 have k:af (dP (n1 / 128) (N,l)=if N<0∨((n1 / 128:Nat):Int)<=N then 2 else if m≠128 then 3 else 0):=by show _=_;rw [t];rfl
 clear t;generalize dP (n1 / 128) (N,l)=r at k ⊢;by_cases z:N<0
 ·have q:=ag (show r=2 by rw [k.o,if_pos (.inl z)])
  clear k;go_enter Tryz.func204,Tryz.ntmps204;go_wp2;have n:aL (fun a=>a.cell? ⟨w.heap.size,0,none⟩=some (.slice p n1 c1)∧a.cell? ⟨w.heap.size,1,none⟩=some (.slice a2 n2 c2)∧a.cell? ⟨w.heap.size,2,none⟩=some (.slice a3 n3 c3)∧a.cell? ⟨w.heap.size+1,0,none⟩=some (.int .i64 N)∧a.cell? ⟨w.heap.size+1,1,none⟩=some (.slice x m d)∧ah w a):=(aR _ _).and ((aR _ _).and ((aR _ _).and ((aR _ _).and ((aR _ _).and (jW w)))));refine gH n (by kernel_rfl) ⟨by simp,by simp,by simp,by simp,by simp,(ae).alloc (by simp) _⟩ ?_
  intro b;refine dm [0,1,2,3,4,5,6,7,8,9] (fuel:=0) (a':=?iD) (by kernel_rfl) (by kernel_rfl) (by kernel_rfl) ?dn b ?iE
  case dn=>
   iterate 4 (apply Yl.cons rfl (by kernel_rfl);focus (rintro a ⟨c,f,g,h,j,u⟩;go_simp<;>with_reducible rfl);try simp only [az])
   iterate 5 (apply Yl.skip rfl (by kernel_rfl);try simp only [az])
   iterate 1 (apply Yl.cons rfl (by kernel_rfl);focus (rintro a ⟨c,f,g,h,j,u⟩;go_simp<;>with_reducible rfl);try simp only [az])
   exact Yl.nil
  refine wpAnyH_done (by kernel_rfl) ?_ _
  refine NoPanic.normal ?_
  obtain ⟨c,f,g,h,j,s⟩:=b;go_wp2;go_ret;exact ⟨by rw [q.o];rfl,s⟩
 ·have B:decide (N<0)=false:=by simpa using z
  by_cases A:((n1 / 128:Nat):Int)<=N
  ·have q:=ag (show r=2 by rw [k.o,if_pos (.inr A)])
   clear k;go_enter Tryz.func204,Tryz.ntmps204;go_wp2;have n:aL (fun a=>a.cell? ⟨w.heap.size,0,none⟩=some (.slice p n1 c1)∧a.cell? ⟨w.heap.size,1,none⟩=some (.slice a2 n2 c2)∧a.cell? ⟨w.heap.size,2,none⟩=some (.slice a3 n3 c3)∧a.cell? ⟨w.heap.size+1,0,none⟩=some (.int .i64 N)∧a.cell? ⟨w.heap.size+1,1,none⟩=some (.slice x m d)∧ah w a):=(aR _ _).and ((aR _ _).and ((aR _ _).and ((aR _ _).and ((aR _ _).and (jW w)))));refine gH n (by kernel_rfl) ⟨by simp,by simp,by simp,by simp,by simp,(ae).alloc (by simp) _⟩ ?_
   intro b;refine dm [0,1,2,3,4,5,6] (fuel:=3) (a':=?lM) (by kernel_rfl) (by kernel_rfl) (by kernel_rfl) ?fU b ?lN
   case fU=>
    iterate 7 (apply Yl.cons rfl (by kernel_rfl);focus (rintro a ⟨c,f,g,h,j,u⟩;go_simp<;>with_reducible rfl);try simp only [az])
    exact Yl.nil
   refine qo n (i:=7) (v:=.int .i64 (n1 / 128:Nat)) rfl (by kernel_rfl) (by rfl) (by go_simp) b (M9 p a2 a3 n1 c1 n2 c2 n3 c3 y _) ?_
   clear b;intro C b;try simp only [az]
   refine dm [8,9] (fuel:=0) (a':=?FE) (by kernel_rfl) (by kernel_rfl) (by kernel_rfl) ?uW b ?FH
   case uW=>
    iterate 2 (apply Yl.cons rfl (by kernel_rfl);focus (rintro a ⟨c,f,g,h,j,u⟩;go_simp<;>with_reducible rfl);try simp only [az])
    exact Yl.nil
   refine wpAnyH_done (by kernel_rfl) ?_ _
   refine NoPanic.normal ?_
   obtain ⟨c,f,g,h,j,s⟩:=b;go_wp2;go_ret;exact ⟨by rw [q.o];rfl,s⟩
  ·have q:=ag (show r=if m≠128 then 3 else 0 by rw [k.o,if_neg (by omega)])
   have D:decide (((n1 / 128:Nat):Int)<=N)=false:=by simpa using A
   clear k;go_enter Tryz.func204,Tryz.ntmps204;go_wp2;have n:aL (fun a=>a.cell? ⟨w.heap.size,0,none⟩=some (.slice p n1 c1)∧a.cell? ⟨w.heap.size,1,none⟩=some (.slice a2 n2 c2)∧a.cell? ⟨w.heap.size,2,none⟩=some (.slice a3 n3 c3)∧a.cell? ⟨w.heap.size+1,0,none⟩=some (.int .i64 N)∧a.cell? ⟨w.heap.size+1,1,none⟩=some (.slice x m d)∧ah w a):=(aR _ _).and ((aR _ _).and ((aR _ _).and ((aR _ _).and ((aR _ _).and (jW w)))));refine gH n (by kernel_rfl) ⟨by simp,by simp,by simp,by simp,by simp,(ae).alloc (by simp) _⟩ ?_
   intro b;refine dm [0,1,2,3,4,5,6] (fuel:=3) (a':=?FI) (by kernel_rfl) (by kernel_rfl) (by kernel_rfl) ?uX b ?FJ
   case uX=>
    iterate 7 (apply Yl.cons rfl (by kernel_rfl);focus (rintro a ⟨c,f,g,h,j,u⟩;go_simp<;>with_reducible rfl);try simp only [az])
    exact Yl.nil
   refine qo n (i:=7) (v:=.int .i64 (n1 / 128:Nat)) rfl (by kernel_rfl) (by rfl) (by go_simp) b (M9 p a2 a3 n1 c1 n2 c2 n3 c3 y _) ?_
   clear b;intro C b;try simp only [az]
   refine dm [8,9] (fuel:=0) (a':=?Na) (by kernel_rfl) (by kernel_rfl) (by kernel_rfl) ?zo b ?Nb
   case zo=>
    iterate 2 (apply Yl.cons rfl (by kernel_rfl);focus (rintro a ⟨c,f,g,h,j,u⟩;go_simp<;>with_reducible rfl);try simp only [az])
    exact Yl.nil
   refine wpAnyH_done (by kernel_rfl) ?_ _
   refine NoPanic.normal ?_
   obtain ⟨c,f,g,h,j,s⟩:=b;by_cases t:m=128
   ·subst t
    go_wp2;go_ret;exact ⟨by rw [q.o];rfl,s⟩
   ·have E:((m:Int) !=128)=true:=by simpa using (by omega:¬(m:Int)=128)
    go_wp2;go_ret;exact ⟨by rw [q.o,if_pos t];rfl,s⟩
theorem qj6 (i a2 a3:au) (n1 c1 n2 c2 n3 c3:Nat) (p:n1<=maxLen) (s:Bool) (N:Int) (x:au) (m d:Nat) (l:ak) (c:m=l.length) (w:World):
  Calls Tryz.prog 181 #[.agg #[.slice i n1 c1,.slice a2 n2 c2,.slice a3 n3 c3],.agg #[.bool s,.int .i64 N,.slice x m d]] w fun e w'=>e=.returned (.int .i64 (bX (n1 / 128) (s,N,l)))∧ah w w':=by
 cases s
 ·have q:=ag c
  clear c;go_enter Tryz.func181,Tryz.ntmps181;go_wp2_with fail
  refine (qj5 i a2 a3 n1 c1 n2 c2 n3 c3 p N x m d l q.o _).mono ?_
  rintro e v ⟨rfl,j⟩;have a:=((Below.refl w.heap.size w).alloc aI _ |>.alloc (by simp) _).trans (j.mono (by simp;omega));clear j;go_wp2;go_ret;exact ⟨rfl,a⟩
 ·have b:af (bX (n1 / 128) (true,N,l)=if N≠0∨l≠[] then 8 else 0):=rfl
  generalize bX (n1 / 128) (true,N,l)=r at b ⊢;have a:∀o k,ah w ((w.alloc o).alloc k):=fun o k=>((Below.refl w.heap.size w).alloc aI _ |>.alloc (by simp) _)
  by_cases g:N=0
  ·subst g
   by_cases n:m=0
   ·have f:=ag (show r=0 by rw [b.o,if_neg];rintro (h | h);exact h rfl;exact h (List.length_eq_zero_iff.1 (by omega)))
    subst n;clear b c;go_enter Tryz.func181,Tryz.ntmps181;go_wp2;go_ret;exact ⟨by rw [f.o];rfl,a _ _⟩
   ·have f:=ag (show r=8 by rw [b.o,if_pos];exact .inr fun h=>n (by rw [c,h];rfl))
    clear b c;have t:((m:Int) !=0)=true:=by simpa using (by omega:¬(m:Int)=0)
    go_enter Tryz.func181,Tryz.ntmps181;go_wp2;go_ret;exact ⟨by rw [f.o];rfl,a _ _⟩
  ·have f:=ag (show r=8 by rw [b.o,if_pos (.inl g)])
   clear b c;have u:(N !=0)=true:=by simpa using g
   go_enter Tryz.func181,Tryz.ntmps181;go_wp2;go_ret;exact ⟨by rw [f.o];rfl,a _ _⟩
theorem LC {d:Dk} (h:¬(d.1.length % 128=0∧1<=bq d∧bq d<=4096∧d.2.1.length<=65536∧d.2.2.length<=65536)):okD d=false:=by
 rw [<-Bool.not_eq_true,qp];rintro ⟨a,b,c,e,f,_⟩;exact h ⟨a,b,c,e,f⟩
theorem qzn {d:Dk} (z a2 a3:au) (n1 c1 n2 c2 n3 c3:Nat) (w:World) (h1:Rd w (.slice z n1 c1) d.1) (P:RdW w (.slice a2 n2 c2) d.2.1) (Q:RdA w (.slice a3 n3 c3) d.2.2) (e1:n1=d.1.length) (R:n2=d.2.1.length) (S:n3=d.2.2.length):
  Calls Tryz.prog 196 #[.agg #[.slice z n1 c1,.slice a2 n2 c2,.slice a3 n3 c3]] w fun e w'=>e=.returned (.bool (okD d))∧ah w w':=by
 have hn:n1<=maxLen:=e1 ▸ h1.len_le;have T:n2<=maxLen:=R ▸ P.len_le;have mI:n3<=maxLen:=S ▸ Q.len_le;have H2:=ag P;have H3:=ag Q;have E1:=ag e1;have K:=ag R;have L:=ag S;obtain ⟨q,M⟩:=ai (n1 / 128);have C:=ag (show bq d=q by rw [bq,<-e1,M]);have HC:=ag (fun y=>M ▸ M9 z a2 a3 n1 c1 n2 c2 n3 c3 hn y:∀y,Calls Tryz.prog 171 #[.agg #[.slice z n1 c1,.slice a2 n2 c2,.slice a3 n3 c3]] y fun e w'=>e=.returned (.int .i64 q)∧ah y w');have HQ:=ag M;clear M;clear h1 P Q e1 R S;unfold maxLen at hn T mI;have hq:∀y o,ah y (World.alloc y o):=fun y o=>ae
 by_cases g1:n1 % 128=0
 ·have U:((n1:Int) % 128 !=0)=false:=by simpa using (by omega:(n1:Int) % 128=0)
  have D:wrap64 ((n1:Int) % 128)=0:=by unfold wrap64;omega
  go_enter Tryz.func196,Tryz.ntmps196;go_wp2_with fail
  refine (HC.o _).mono ?_
  rintro e N ⟨rfl,E⟩;have O:ah w N:=(hq _ _).trans (E.mono (by simp));have k0:N.cell? ⟨w.heap.size,0,none⟩=some (.slice z n1 c1):=by rw [E.cell (by simp)];simp
  have k1:N.cell? ⟨w.heap.size,1,none⟩=some (.slice a2 n2 c2):=by rw [E.cell (by simp)];simp
  have k2:N.cell? ⟨w.heap.size,2,none⟩=some (.slice a3 n3 c3):=by rw [E.cell (by simp)];simp
  clear E;by_cases g2:q<1
  ·have n:=ag (show okD d=false from LC (by have:=C.o;omega))
   have V:(q:Int)<1:=by omega
   go_wp2;go_ret;exact ⟨by rw [n.o];rfl,O⟩
  have V:decide ((q:Int)<1)=false:=aA (by omega);go_wp2_with fail
  refine (HC.o _).mono ?_
  rintro e W ⟨rfl,r⟩;have u:ah w W:=O.trans (r.mono O.size);have X:=aR _ _ _ _ k0 r;have A:=aR _ _ _ _ k1 r;have B:=aR _ _ _ _ k2 r;clear r O k0 k1 k2;by_cases g3:q > 4096
  ·have n:=ag (show okD d=false from LC (by have:=C.o;omega))
   have Y:(4096:Int)<(q:Int):=by omega
   go_wp2;go_ret;exact ⟨by rw [n.o];rfl,u⟩
  have Y:decide ((4096:Int)<(q:Int))=false:=aA (by omega);by_cases g4:n2 > 65536
  ·have n:=ag (show okD d=false from LC (by have:=K.o;omega))
   have Z:(65536:Int)<n2:=by omega
   go_wp2;go_ret;exact ⟨by rw [n.o];rfl,u⟩
  have Z:decide ((65536:Int)<n2)=false:=aA (by omega);by_cases g5:n3 > 65536
  ·have n:=ag (show okD d=false from LC (by have:=L.o;omega))
   have BB:(65536:Int)<n3:=by omega
   go_wp2;go_ret;exact ⟨by rw [n.o];rfl,u⟩
  have BB:decide ((65536:Int)<n3)=false:=aA (by omega);have HO:af (okD d=(d.2.1.all (fun p=>decide (dP (bq d) p=0)) && d.2.2.all (fun a=>decide (bX (bq d) a=0)))):=by
   show _=_
   have:=C.o
   have:=E1.o
   have:=K.o
   have:=L.o
   simp only [okD];rw [decide_eq_true (by omega:d.1.length % 128=0),decide_eq_true (by omega:1<=bq d),decide_eq_true (by omega:bq d<=4096),decide_eq_true (by omega:d.2.1.length<=65536),decide_eq_true (by omega:d.2.2.length<=65536)];simp
  have F:=ag (H2.o.a (u.mono aI));have G:=ag (H3.o.a (u.mono aI));clear H2 H3;go_wp2;go_loopw [35] (fun i wr=>∃k:Nat,k<=n2∧i=.int .i64 k∧af (∀p∈d.2.1.take k,dP (bq d) p=0)∧ah W wr) (fun i _=>n2 - (intOf i).toNat)
  case atStart=>exact ⟨0,Nat.zero_le _,rfl,ag (by simp),aB⟩
  case round=>
   obtain ⟨k,hk,rfl,j,f⟩:=hrel;by_cases aa:k<n2
   ·have s:(k:Int)<n2:=by omega
    have l:k<d.2.1.length:=by have:=K.o;omega
    obtain ⟨b,ab,rfl,q0,x,m,c,q1,q2,H⟩:=(F.o.a f).at k l;have r0:=fun o=>aR _ _ _ _ X (f.alloc f.size o)
    have r1:=fun o=>aR _ _ _ _ A (f.alloc f.size o)
    have r2:=fun o=>aR _ _ _ _ B (f.alloc f.size o)
    have HX:=ag H;clear q2 H;go_wp2_with fail
    refine (qj5 z _ a3 n1 c1 n2 c2 n3 c3 (by unfold maxLen;omega) (d.2.1[k]).1 x m c (d.2.1[k]).2 HX.o _).mono ?_
    rintro e wc ⟨rfl,t⟩;have I:ah W wc:=(f.alloc f.size _).trans (t.mono (aC f.size (by simp)));clear t;have J:=ag (show dP (n1 / 128) ((d.2.1[k]).1,(d.2.1[k]).2)=dP (bq d) d.2.1[k] by rw [C.o,HQ.o]);rw [J.o];clear J;by_cases g:dP (bq d) d.2.1[k]=0
    ·rw [g]
     have HP:=ag g;clear g;go_wp2;go_roundw
     case rel=>
      refine ⟨k+1,by omega,by go_num,ag ?_,I⟩;intro p g;rw [List.take_succ_eq_append_getElem l] at g;rcases List.mem_append.1 g with h | h
      ·exact j.o p h
      ·rw [List.mem_singleton.1 h];exact HP.o
     case measure=>simp [intOf]<;>omega
    ·have n:=ag (show okD d=false by
      rw [HO.o,Bool.and_eq_false_iff];left
      rw [List.all_eq_false];exact ⟨d.2.1[k],List.getElem_mem l,by simpa using g⟩)
     have ac:(dP (bq d) d.2.1[k] !=0)=true:=by simpa using g
     generalize dP (bq d) d.2.1[k]=pe at *;go_wp2;go_ret;exact ⟨by rw [n.o];rfl,u.trans (I.mono u.size)⟩
   ·have HA:=ag (show d.2.1.all (fun p=>decide (dP (bq d) p=0))=true by
     rw [List.all_eq_true];intro p g;have:=j.o
     rw [List.take_of_length_le (by have:=K.o;omega)] at this;simpa using this p g)
    have s:decide ((k:Int)<n2)=false:=aA (by omega);have r0:=aR _ _ _ _ X f;have r1:=aR _ _ _ _ A f;have r2:=aR _ _ _ _ B f;have ad:=ag (G.o.a f);have v:ah w wr:=u.trans (f.mono u.size);clear F G X A B u f j;go_wp2;go_loopw [47] (fun i wq=>∃k:Nat,k<=n3∧i=.int .i64 k∧af (∀p∈d.2.2.take k,bX (bq d) p=0)∧ah wr wq) (fun i _=>n3 - (intOf i).toNat)
    case atStart=>exact ⟨0,Nat.zero_le _,rfl,ag (by simp),aB⟩
    case round=>
     obtain ⟨k,hk,rfl,j,f⟩:=hrel;by_cases aa:k<n3
     ·have s:(k:Int)<n3:=by omega
      have l:k<d.2.2.length:=by have:=L.o;omega
      obtain ⟨b,ab,rfl,q0,lI,x,m,c,q1,q2,H⟩:=(ad.o.a f).at k l;have s0:=fun o=>aR _ _ _ _ r0 (f.alloc f.size o)
      have s1:=fun o=>aR _ _ _ _ r1 (f.alloc f.size o)
      have s2:=fun o=>aR _ _ _ _ r2 (f.alloc f.size o)
      have HX:=ag H;clear q2 H;go_wp2_with fail
      refine (qj6 z a2 _ n1 c1 n2 c2 n3 c3 (by unfold maxLen;omega) (d.2.2[k]).1 (d.2.2[k]).2.1 x m c (d.2.2[k]).2.2 HX.o _).mono ?_
      rintro e wc ⟨rfl,t⟩;have I:=(f.alloc f.size _).trans (t.mono (aC f.size (by simp)));clear t;have J:=ag (show bX (n1 / 128) ((d.2.2[k]).1,(d.2.2[k]).2.1,(d.2.2[k]).2.2)=bX (bq d) d.2.2[k] by rw [C.o,HQ.o]);rw [J.o];clear J;by_cases g:bX (bq d) d.2.2[k]=0
      ·rw [g]
       have HP:=ag g;clear g;go_wp2;go_roundw
       case rel=>
        refine ⟨k+1,by omega,by go_num,ag ?_,I⟩;intro p g;rw [List.take_succ_eq_append_getElem l] at g;rcases List.mem_append.1 g with h | h
        ·exact j.o p h
        ·rw [List.mem_singleton.1 h];exact HP.o
       case measure=>simp [intOf]<;>omega
      ·have n:=ag (show okD d=false by
        rw [HO.o,Bool.and_eq_false_iff];right
        rw [List.all_eq_false];exact ⟨d.2.2[k],List.getElem_mem l,by simpa using g⟩)
       have ac:(bX (bq d) d.2.2[k] !=0)=true:=by simpa using g
       generalize bX (bq d) d.2.2[k]=pe at *;go_wp2;go_ret;exact ⟨by rw [n.o];rfl,v.trans (I.mono v.size)⟩
     ·have s:decide ((k:Int)<n3)=false:=aA (by omega)
      go_wp2;go_ret;refine ⟨?_,v.trans (f.mono v.size)⟩;rw [HO.o,HA.o];rw [show d.2.2.all (fun p=>decide (bX (bq d) p=0))=true by
       rw [List.all_eq_true];intro p g;have:=j.o
       rw [List.take_of_length_le (by have:=L.o;omega)] at this;simpa using this p g]
      rfl
 ·have n:=ag (show okD d=false from LC (by have:=E1.o;omega))
  have U:((n1:Int) % 128 !=0)=true:=by simpa using (by omega:¬(n1:Int) % 128=0)
  have D:wrap64 ((n1:Int) % 128)=(n1:Int) % 128:=by unfold wrap64;omega
  go_enter Tryz.func196,Tryz.ntmps196;go_wp2;go_ret;exact ⟨by rw [n.o];rfl,hq _ _⟩
theorem Vr {w:World} {base a:Nat} {e:TypeId} {size:Nat} {v:Value} {n:Nat} {c:List Value} (h:w.ownsRow base e size v n c) (hb:a<=base):w.ownsRow a e size v n c:=
 ⟨h.1,h.2.imp id fun ⟨g,cap,b,d,f,i⟩=>⟨g,cap,b,d,aC hb f,i⟩⟩
def aX (w:World) (base:Nat) (v:Value) (l:ak):Prop:=w.ownsRow base 5 1 v l.length (bW l)
theorem aX.rd {w:World} {base:Nat} {v:Value} {l:ak} (h:aX w base v l):Rd w v l:=BA h
theorem aX.form {w:World} {base:Nat} {v:Value} {l:ak} (h:aX w base v l):∃a c,v=.slice a l.length c:=h.rd.form
theorem aX.a {w w':World} {base:Nat} {v:Value} {l:ak} (h:aX w base v l) (hb:ah w w'):aX w' base v l:=pW h hb
theorem aX.mono {w:World} {base a:Nat} {v:Value} {l:ak} (h:aX w base v l) (hb:a<=base):aX w a v l:=Vr h hb
theorem aX.grown {w w':World} {base g:Nat} {v:Value} {l:ak} (h:aX w base v l) (a:w.grownBy w' (some g)) (hb:g<base):aX w' base v l:=
 World.ownsRow.kept h a (by cases hv:v.ownBlock with | none=>exact .inl rfl | some k=>right;intro e;have:=(World.ownsRow.lt h k hv).1;cases e;omega)
theorem qzo (b a c m:Nat) (l:ak) (w:World) (g:m=l.length) (k:l.length<=1000000000) (f:Rd w (.slice (some ⟨b,a,none⟩) m c) l):
  Calls Tryz.prog 173 #[.slice (some ⟨b,a,none⟩) m c] w fun e w'=>∃v,e=.returned v∧aX w' w.heap.size v l∧ah w w':=by
 have h:=ag f;have n:=ag g;clear f g;have p:=fun i=>Lib.run_eql_slice_nil (P:=Tryz.prog) i 22 5 (some ⟨b,a,none⟩) m c 0 0 Tryz.underlying22
 go_enter Tryz.func173,Tryz.ntmps173;go_wp2_with (at_builtin;go_must (refine Vk w (w.alloc (.cells #[] 5)) rfl (.tmp 5) (.tmp 6) 22 rfl w.heap.size 5 Tryz.underlying22 Tryz.infoB _ [] (World.ownsRow_made w #[] 0 aI (by decide) rfl) rfl (ae) aI _ l (h.o.alloc _) rfl (by simp;omega) ?_);intro q r d j)
 go_ret;exact ⟨_,rfl,d,j⟩
theorem YB (a:au) (c m:Nat) (l:ak) (w:World) (i:m=l.length) (j:l.length<=1000000000) (d:Rd w (.slice a m c) l):
  Calls Tryz.prog 173 #[.slice a m c] w fun e w'=>∃v,e=.returned v∧aX w' w.heap.size v l∧ah w w':=by
 rcases a with _ | ⟨b,g,q⟩
 ·have n:=ag (show l=[] by rcases d with ⟨h,_⟩ | ⟨_,_,_,h,_⟩;exact h;cases h)
  have y:af (m=0):=by show m=0;rw [i,n.o];rfl
  clear i j;have z:=ag d;clear d;have r:=fun k=>Lib.run_eql_slice_nil (P:=Tryz.prog) k 22 5 none m c 0 0 Tryz.underlying22
  go_enter Tryz.func173,Tryz.ntmps173;go_wp2;go_ret;refine ⟨_,rfl, ?_,aB⟩;rw [n.o];exact World.ownsRow_nil _ _ _ _
 ·rcases d with ⟨rfl,h⟩ | ⟨A,p,B,h,s,t,u⟩
  ·obtain rfl:m=0:=i
   have r:=fun k=>Lib.run_eql_slice_nil (P:=Tryz.prog) k 22 5 (some ⟨b,g,q⟩) 0 c 0 0 Tryz.underlying22
   clear h j;go_enter Tryz.func173,Tryz.ntmps173;go_wp2_with (at_builtin;go_must (refine Vk w (w.alloc (.cells #[] 5)) rfl (.tmp 5) (.tmp 6) 22 rfl w.heap.size 5 Tryz.underlying22 Tryz.infoB _ [] (World.ownsRow_made w #[] 0 aI (by decide) rfl) rfl (ae) aI _ [] (.inl ⟨rfl,.inr ⟨_,_,rfl⟩⟩) rfl (by decide) ?_);intro C D f x)
   go_ret;exact ⟨_,rfl,f,x⟩
  ·cases h
   exact qzo b g c _ l w rfl j (.inr ⟨_,_,_,rfl,s,t,u⟩)
theorem eH (k:Nat) (o:Obj):aL (fun w=>w.heap[k]? =some o):=fun w w' h a=>by
 show w'.heap[k]? =some o
 rw [a.block k (Array.getElem?_eq_some_iff.1 h).1];exact h
theorem FK (k:Nat):aL (fun w=>k<=w.heap.size):=fun w w' h a=>aC h a.size
theorem nO (w:World) (a:Addr) (u:Value):w.grownBy (w.setCell a u) (some a.block):=
 ⟨rfl,rfl,rfl,by simp,fun k _ b=>heap_setCell_other w a k u (fun e=>b (by simp [e]))⟩
theorem pq (w:World) (o a:Obj):((w.alloc o).alloc a).heap[w.heap.size+1]? =some a:=by
 have:=heap_alloc_new (w.alloc o) a
 simpa using this
theorem nP {w a b:World} {r:Option Nat} (h:w.grownBy a r) (k:a.grownBy b r):w.grownBy b r:=
 ⟨k.os.trans h.os,k.tape.trans h.tape,k.output.trans h.output,aC h.size k.size,fun i c d=>(k.block i (Nat.lt_of_lt_of_le c h.size) d).trans (h.block i c d)⟩
theorem qzp {w:World} {B:Nat} {t:TypeId} {a b:Value} (u1 u2:Value) (h:w.heap[B]? =some (.cells #[a,b] t (0,0))):
  ∃ws,(w.setCell ⟨B,0,none⟩ u1).setCell ⟨B,1,none⟩ u2=ws∧ws.heap[B]? =some (.cells #[u1,u2] t (0,0))∧w.grownBy ws (some B):=
 ⟨_,rfl,heap_setCell_same _ _ 1 _ _ _ (heap_setCell_same _ _ 0 _ _ _ h),nP (nO w _ _) (nO _ _ _)⟩
theorem ou {w:World} {B:Nat} {t:TypeId} {a b c:Value} (u1 u2 u3:Value) (h:w.heap[B]? =some (.cells #[a,b,c] t (0,0))):
  ∃ws,((w.setCell ⟨B,0,none⟩ u1).setCell ⟨B,1,none⟩ u2).setCell ⟨B,2,none⟩ u3=ws∧ws.heap[B]? =some (.cells #[u1,u2,u3] t (0,0))∧w.grownBy ws (some B):=
 ⟨_,rfl,heap_setCell_same _ _ 2 _ _ _ (heap_setCell_same _ _ 1 _ _ _ (heap_setCell_same _ _ 0 _ _ _ h)),nP (nP (nO w _ _) (nO _ _ _)) (nO _ _ _)⟩
theorem Nc {w:World} {B:Nat} {t:TypeId} {u1 u2:Value} (h:w.heap[B]? =some (.cells #[u1,u2] t (0,0))):w.cell? ⟨B,0,none⟩=some u1∧w.cell? ⟨B,1,none⟩=some u2∧∀j,w.frozen? ⟨B,j,none⟩=false:=
 ⟨by simp [World.cell?,h],by simp [World.cell?,h],fun j=>frozen_of_row w _ j _ _ h⟩
theorem cells3 {w:World} {B:Nat} {t:TypeId} {u1 u2 u3:Value} (h:w.heap[B]? =some (.cells #[u1,u2,u3] t (0,0))):w.cell? ⟨B,0,none⟩=some u1∧w.cell? ⟨B,1,none⟩=some u2∧w.cell? ⟨B,2,none⟩=some u3∧∀j,w.frozen? ⟨B,j,none⟩=false:=
 ⟨by simp [World.cell?,h],by simp [World.cell?,h],by simp [World.cell?,h],fun j=>frozen_of_row w _ j _ _ h⟩
theorem qj7 (k:Nat) (t:TypeId):aL (fun w=>∃a b,w.heap[k]? =some (.cells #[a,b] t (0,0))):=fun w w' ⟨a,b,h⟩ hb=>⟨a,b,eH _ _ _ _ h hb⟩
theorem qj8 (k:Nat) (t:TypeId):aL (fun w=>∃a b c,w.heap[k]? =some (.cells #[a,b,c] t (0,0))):=fun w w' ⟨a,b,c,h⟩ hb=>⟨a,b,c,eH _ _ _ _ h hb⟩
theorem YC (N:Int) (x:au) (m d:Nat) (l:ak) (w:World) (z:m=l.length) (H:l.length<=1000000000) (g:Rd w (.slice x m d) l):
  Calls Tryz.prog 208 #[.agg #[.int .i64 N,.slice x m d]] w fun e w'=>∃v,e=.returned (.agg #[.int .i64 N,v])∧aX w' w.heap.size v l∧ah w w':=by
 have I:=ag g;have J:=ag z;clear g z;go_enter Tryz.func208,Tryz.ntmps208;go_wp2;have p:aL (fun c=>c.cell? ⟨w.heap.size,0,none⟩=some (.int .i64 N)∧c.cell? ⟨w.heap.size,1,none⟩=some (.slice x m d)∧(∃A B,c.heap[w.heap.size+1]? =some (.cells #[A,B] 94 (0,0)))∧ah w c∧w.heap.size+2<=c.heap.size):=(aR _ _).and ((aR _ _).and ((qj7 _ _).and ((jW w).and (FK _))));refine gH p (by kernel_rfl) ⟨by simp,by simp,⟨_,_,pq _ _ _⟩,(ae).alloc (by simp) _,by simp⟩ ?_
 intro b;refine dm [0,1,2,3] (fuel:=3) (a':=?iD) (by kernel_rfl) (by kernel_rfl) (by kernel_rfl) ?dn b ?iE
 case dn=>
  iterate 4 (apply Yl.cons rfl (by kernel_rfl);focus (rintro c ⟨r,s,q,f,t⟩;go_simp<;>with_reducible rfl);try simp only [az])
  exact Yl.nil
 refine uT p (i:=4) (R:=fun v K=>aX K (w.heap.size+2) v l) rfl (by kernel_rfl) (by rfl) (by go_simp) b ((YB x d m l _ J.o H (I.o.a b.2.2.2.1)).mono fun e O ⟨v,h1,h2,h3⟩=>⟨v,h1,h2.mono b.2.2.2.2,h3⟩) (fun v _ _ h u=>h.a u) ?_
 intro P Q j L C;clear p b;have p:=j;have b:=C;clear j C;obtain ⟨D,E,rfl⟩:=L.form;try simp only [az]
 refine bZ (i:=5) (v:=?Nf) rfl (by kernel_rfl) (by kernel_rfl) (by kernel_rfl) (by rfl) ?zq b ?Ng
 case zq=>(rintro c ⟨⟨r,s,q,f,t⟩,_⟩;go_simp<;>with_reducible rfl)
 try simp only [az]
 obtain ⟨⟨r,s,⟨A,B,q⟩,f,t⟩,F⟩:=b;obtain ⟨ws,G,n,a⟩:=qzp (.int .i64 N) (.slice D l.length E) q;obtain ⟨S,T,U⟩:=Nc q;refine nL (i:=6) (w':=ws) rfl (by kernel_rfl) (by rfl) (by rw [<-G];go_simp) ⟨⟨a.cell r (by simp),a.cell s (by simp),⟨_,_,n⟩,f.grown a f.size (fun k y=>by cases y;simp),aC t a.size⟩,F.grown a (by simp)⟩ ?_
 try simp only [az]
 refine wpAnyH_done (by kernel_rfl) ?_ _
 refine NoPanic.normal ?_
 have u:ah w ws:=f.grown a f.size (fun k y=>by cases y;simp);have M:=F.grown a (by simp);obtain ⟨V,W,_⟩:=Nc n;clear G;go_wp2;refine bodyPost_ret (v:=.agg #[.int .i64 N,.slice D l.length E]) ?_ rfl ⟨_,rfl,M.mono (by omega),u⟩
 simp [results,Tryz.results208,go_sem, *]
theorem YD (s:Bool) (N:Int) (x:au) (m d:Nat) (l:ak) (w:World) (C:m=l.length) (K:l.length<=1000000000) (g:Rd w (.slice x m d) l):
  Calls Tryz.prog 209 #[.agg #[.bool s,.int .i64 N,.slice x m d]] w fun e w'=>∃v,e=.returned (.agg #[.bool s,.int .i64 N,v])∧aX w' w.heap.size v l∧ah w w':=by
 have L:=ag g;have M:=ag C;clear g C;go_enter Tryz.func209,Tryz.ntmps209;go_wp2;have q:aL (fun b=>b.cell? ⟨w.heap.size,0,none⟩=some (.bool s)∧b.cell? ⟨w.heap.size,1,none⟩=some (.int .i64 N)∧b.cell? ⟨w.heap.size,2,none⟩=some (.slice x m d)∧(∃D E F,b.heap[w.heap.size+1]? =some (.cells #[D,E,F] 151 (0,0)))∧ah w b∧w.heap.size+2<=b.heap.size):=(aR _ _).and ((aR _ _).and ((aR _ _).and ((qj8 _ _).and ((jW w).and (FK _)))));refine gH q (by kernel_rfl) ⟨by simp,by simp,by simp,⟨_,_,_,pq _ _ _⟩,(ae).alloc (by simp) _,by simp⟩ ?_
 intro c;refine dm [0,1,2,3] (fuel:=3) (a':=?lM) (by kernel_rfl) (by kernel_rfl) (by kernel_rfl) ?fU c ?lN
 case fU=>
  iterate 4 (apply Yl.cons rfl (by kernel_rfl);focus (rintro b ⟨t,u,y,r,f,z⟩;go_simp<;>with_reducible rfl);try simp only [az])
  exact Yl.nil
 refine uT q (i:=4) (R:=fun v O=>∃p k,v=.agg #[.int .i64 N,.slice p l.length k]∧aX O (w.heap.size+2) (.slice p l.length k) l) rfl (by kernel_rfl) (by rfl) (by go_simp) c ((YC N x m d l _ M.o K (L.o.a c.2.2.2.2.1)).mono fun e S ⟨v,h1,h2,h3⟩=>by obtain ⟨p,k,rfl⟩:=h2.form;exact ⟨_,h1,⟨p,k,rfl,h2.mono c.2.2.2.2.2⟩,h3⟩) (fun v _ _ ⟨p,k,h,h'⟩ hb=>⟨p,k,h,h'.a hb⟩) ?_
 intro T U j P G;clear q c;have q:=j;have c:=G;clear j G;obtain ⟨A,H,rfl,I⟩:=P;try simp only [az]
 refine bZ (i:=5) (v:=?Nf) rfl (by kernel_rfl) (by kernel_rfl) (by kernel_rfl) (by rfl) ?zq c ?Ng
 case zq=>(rintro b ⟨⟨t,u,y,r,f,z⟩,_⟩;go_simp<;>with_reducible rfl)
 try simp only [az]
 obtain ⟨⟨t,u,y,⟨D,E,F,r⟩,f,z⟩,_⟩:=c;obtain ⟨ws,J,n,a⟩:=ou (.bool s) (.int .i64 N) (.slice A l.length H) r;obtain ⟨V,W,X,Y⟩:=cells3 r;refine nL (i:=6) (w':=ws) rfl (by kernel_rfl) (by rfl) (by rw [<-J];go_simp) ⟨⟨a.cell t (by simp),a.cell u (by simp),a.cell y (by simp),⟨_,_,_,n⟩,f.grown a f.size (fun k B=>by cases B;simp),aC z a.size⟩,⟨A,_,rfl,I.grown a (by simp)⟩⟩ ?_
 try simp only [az]
 refine wpAnyH_done (by kernel_rfl) ?_ _
 refine NoPanic.normal ?_
 have hb:ah w ws:=f.grown a f.size (fun k B=>by cases B;simp);have Q:=I.grown a (by simp);obtain ⟨Z,q2,q3,_⟩:=cells3 n;clear J;go_wp2;refine bodyPost_ret (v:=.agg #[.bool s,.int .i64 N,.slice A l.length H]) ?_ rfl ⟨_,rfl,Q.mono (by omega),hb⟩
 simp [results,Tryz.results209,go_sem, *]
theorem Tryz.infoPut:(Tryz.prog.info? 94).map (fun i=>(i.zero,i.size,i.bytes))=some (some (.agg #[.int .i64 0,.slice none 0 0]),2,32):=by kernel_rfl
theorem Tryz.infoAct:(Tryz.prog.info? 151).map (fun i=>(i.zero,i.size,i.bytes))=some (some (.agg #[.bool false,.int .i64 0,.slice none 0 0]),3,40):=by kernel_rfl
def xy (z:List (Pu × Value)):List Value:=(z.map fun p=>[.int .i64 p.1.1,p.2]).flatten
def uY (z:List (Ac × Value)):List Value:=(z.map fun p=>[.bool p.1.1,.int .i64 p.1.2.1,p.2]).flatten
theorem YE:∀(z:List (Pu × Value)) (j:Nat) (h:j<z.length),(xy z)[j*2]? =some (.int .i64 (z[j]).1.1)∧(xy z)[j*2+1]? =some (z[j]).2
 | p::z,0,h=>by simp [xy]
 | p::z,j+1,h=>by
  have:=YE z j (by simpa using h)
  have e:xy (p::z)=[.int .i64 p.1.1,p.2]++xy z:=rfl;rw [e,show (j+1)*2=2+j*2 by omega];refine ⟨?_, ?_⟩
  ·rw [List.getElem?_append_right (by simp)];simpa using this.1
  ·rw [List.getElem?_append_right (by simp;omega)]
   have a:2+j*2+1 - [Value.int .i64 p.1.1,p.2].length=j*2+1:=by simp;omega
   rw [a];simpa using this.2
theorem qnk:∀(z:List (Ac × Value)) (j:Nat) (h:j<z.length),(uY z)[j*3]? =some (.bool (z[j]).1.1)∧(uY z)[j*3+1]? =some (.int .i64 (z[j]).1.2.1)∧(uY z)[j*3+2]? =some (z[j]).2
 | p::z,0,h=>by simp [uY]
 | p::z,j+1,h=>by
  have:=qnk z j (by simpa using h)
  have e:uY (p::z)=[.bool p.1.1,.int .i64 p.1.2.1,p.2]++uY z:=rfl;rw [e,show (j+1)*3=3+j*3 by omega];refine ⟨?_, ?_, ?_⟩
  ·rw [List.getElem?_append_right (by simp)];simpa using this.1
  ·rw [List.getElem?_append_right (by simp;omega)]
   have a:3+j*3+1 - [Value.bool p.1.1,.int .i64 p.1.2.1,p.2].length=j*3+1:=by simp;omega
   rw [a];simpa using this.2.1
  ·rw [List.getElem?_append_right (by simp;omega)]
   have a:3+j*3+2 - [Value.bool p.1.1,.int .i64 p.1.2.1,p.2].length=j*3+2:=by simp;omega
   rw [a];simpa using this.2.2
def kG (w:World) (base:Nat) (v:Value) (l:List Pu):Prop:=∃z:List (Pu × Value),z.map (·.1)=l∧w.ownsRow base 94 2 v l.length (xy z)∧∀p∈z,aX w base p.2 p.1.2
def lQ (w:World) (base:Nat) (v:Value) (l:List Ac):Prop:=∃z:List (Ac × Value),z.map (·.1)=l∧w.ownsRow base 151 3 v l.length (uY z)∧∀p∈z,aX w base p.2 p.1.2.2
def jL (w:World) (base:Nat) (v:Value) (d:Dk):Prop:=∃x y z,v=.agg #[x,y,z]∧aX w base x d.1∧kG w base y d.2.1∧lQ w base z d.2.2
theorem kG.a {w w':World} {base:Nat} {v:Value} {l:List Pu} (h:kG w base v l) (hb:ah w w'):kG w' base v l:=by
 obtain ⟨z,a,b,c⟩:=h;exact ⟨z,a,pW b hb,fun p d=>(c p d).a hb⟩
theorem lQ.a {w w':World} {base:Nat} {v:Value} {l:List Ac} (h:lQ w base v l) (hb:ah w w'):lQ w' base v l:=by
 obtain ⟨z,a,b,c⟩:=h;exact ⟨z,a,pW b hb,fun p d=>(c p d).a hb⟩
theorem jL.a {w w':World} {base:Nat} {v:Value} {d:Dk} (h:jL w base v d) (hb:ah w w'):jL w' base v d:=by
 obtain ⟨x,y,z,rfl,a,b,c⟩:=h;exact ⟨x,y,z,rfl,a.a hb,b.a hb,c.a hb⟩
theorem kG.mono {w:World} {base a:Nat} {v:Value} {l:List Pu} (h:kG w base v l) (hb:a<=base):kG w a v l:=by
 obtain ⟨z,b,c,d⟩:=h;exact ⟨z,b,Vr c hb,fun p e=>(d p e).mono hb⟩
theorem lQ.mono {w:World} {base a:Nat} {v:Value} {l:List Ac} (h:lQ w base v l) (hb:a<=base):lQ w a v l:=by
 obtain ⟨z,b,c,d⟩:=h;exact ⟨z,b,Vr c hb,fun p e=>(d p e).mono hb⟩
theorem jL.mono {w:World} {base a:Nat} {v:Value} {d:Dk} (h:jL w base v d) (hb:a<=base):jL w a v d:=by
 obtain ⟨x,y,z,rfl,b,c,e⟩:=h;exact ⟨x,y,z,rfl,b.mono hb,c.mono hb,e.mono hb⟩
theorem YF {w w':World} {base g:Nat} {e:TypeId} {s:Nat} {v:Value} {n:Nat} {a:List Value} (h:w.ownsRow base e s v n a) (b:w.grownBy w' (some g)) (hb:g<base):w'.ownsRow base e s v n a:=
 h.kept b (by cases hv:v.ownBlock with | none=>exact .inl rfl | some k=>right;intro e;have:=(h.lt k hv).1;cases e;omega)
theorem kG.grown {w w':World} {base g:Nat} {v:Value} {l:List Pu} (h:kG w base v l) (a:w.grownBy w' (some g)) (hb:g<base):kG w' base v l:=by
 obtain ⟨z,b,c,d⟩:=h;exact ⟨z,b,YF c a hb,fun p e=>(d p e).grown a hb⟩
theorem lQ.grown {w w':World} {base g:Nat} {v:Value} {l:List Ac} (h:lQ w base v l) (a:w.grownBy w' (some g)) (hb:g<base):lQ w' base v l:=by
 obtain ⟨z,b,c,d⟩:=h;exact ⟨z,b,YF c a hb,fun p e=>(d p e).grown a hb⟩
theorem jL.grown {w w':World} {base g:Nat} {v:Value} {d:Dk} (h:jL w base v d) (a:w.grownBy w' (some g)) (hb:g<base):jL w' base v d:=by
 obtain ⟨x,y,z,rfl,b,c,e⟩:=h;exact ⟨x,y,z,rfl,b.grown a hb,c.grown a hb,e.grown a hb⟩
theorem kG.rd {w:World} {base:Nat} {v:Value} {l:List Pu} (h:kG w base v l):RdW w v l:=by
 obtain ⟨z,rfl,b,e⟩:=h;rcases b.2 with ⟨rfl,c⟩ | ⟨g,cap,f,rfl,_,o,c,i,k,d⟩
 ·exact .inl ⟨List.length_eq_zero_iff.1 c,.inl rfl⟩
 ·refine .inr ⟨g,0,cap,rfl,c,i,fun j m=>?_⟩
  have a:j<z.length:=by simpa using m
  obtain ⟨e1,n⟩:=YE z j a;have c1:=b.cells (g:=g) rfl _ _ e1;have c2:=b.cells (g:=g) rfl _ _ n;rw [Addr.add_lit] at c1 c2;refine ⟨by simpa using c1,(z[j]).2,by simpa [Nat.add_assoc] using c2, ?_⟩;have:=(e z[j] (List.getElem_mem a)).rd
  simpa using this
theorem lQ.rd {w:World} {base:Nat} {v:Value} {l:List Ac} (h:lQ w base v l):RdA w v l:=by
 obtain ⟨z,rfl,b,e⟩:=h;rcases b.2 with ⟨rfl,c⟩ | ⟨g,cap,f,rfl,_,p,c,i,k,d⟩
 ·exact .inl ⟨List.length_eq_zero_iff.1 c,.inl rfl⟩
 ·refine .inr ⟨g,0,cap,rfl,c,i,fun j m=>?_⟩
  have a:j<z.length:=by simpa using m
  obtain ⟨e1,n,o⟩:=qnk z j a;have c1:=b.cells (g:=g) rfl _ _ e1;have c2:=b.cells (g:=g) rfl _ _ n;have c3:=b.cells (g:=g) rfl _ _ o;rw [Addr.add_lit] at c1 c2 c3;refine ⟨by simpa using c1,by simpa [Nat.add_assoc] using c2,(z[j]).2,by simpa [Nat.add_assoc] using c3, ?_⟩;have:=(e z[j] (List.getElem_mem a)).rd
  simpa using this
theorem jL.rd {w:World} {base:Nat} {v:Value} {d:Dk} (h:jL w base v d):RdD w v d:=by
 obtain ⟨x,y,z,rfl,a,b,c⟩:=h;exact ⟨x,y,z,rfl,a.rd,b.rd,c.rd⟩
end Go.Proofs.YthpammbgcidloaaGreat
