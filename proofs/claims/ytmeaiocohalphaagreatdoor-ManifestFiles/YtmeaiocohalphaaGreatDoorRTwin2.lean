/-
  What the document's Twin does: a disk in new memory.
-/
import Derived.Test.YtmeaiocohalphaaGreatDoorL2d
set_option maxHeartbeats 2000000
set_option maxRecDepth 100000
namespace Go.Proofs.YtmeaiocohalphaaGreatDoor
open Go.RowKit
set_option linter.all false
variable {d:Dk}{v:Value}
theorem qpv(N:Int)(x:aA)(m c:Nat)(l:az)(q:Nat)(d:m=l.length)(w:World):
  Calls Tryz.prog 185 #[.int .i64 N,.slice x m c,.int .i64 q] w fun e w'=>e=.returned (.int .i64 (dO q (N,l)))∧ah w w':=by
 have a:af (dO q (N,l)=if N<0∨(q:Int)<=N then 2 else if m≠128 then 3 else 0):=by show _=_;rw[d];rfl
 clear d;generalize dO q (N,l)=r at a⊢;by_cases f:N<0
 ·have b:=ag (show r=2 by rw[a.o,if_pos (.inl f)])
  clear a;go_enter Tryz.func185,Tryz.ntmps185;go_wp2;go_ret;exact⟨by rw[b.o];rfl,aF⟩
 have h:decide (N<0)=false:=by simpa using f
 by_cases g:(q:Int)<=N
 ·have b:=ag (show r=2 by rw[a.o,if_pos (.inr g)])
  clear a;go_enter Tryz.func185,Tryz.ntmps185;go_wp2;go_ret;exact⟨by rw[b.o];rfl,aF⟩
 have i:decide ((q:Int)<=N)=false:=by simpa using g
 have b:=ag (show r=if m≠128 then 3 else 0 by rw[a.o,if_neg (by omega)]);clear a;by_cases d:m=128
 ·subst d
  go_enter Tryz.func185,Tryz.ntmps185;go_wp2;go_ret;exact⟨by rw[b.o];rfl,aF⟩
 have j:((m:Int) !=128)=true:=by simpa using(by omega:¬(m:Int)=128)
 go_enter Tryz.func185,Tryz.ntmps185;go_wp2;go_ret;exact⟨by rw[b.o,if_pos d];rfl,aF⟩
theorem qafx(s:Bool)(N:Int)(x:aA)(m c:Nat)(l:az)(q:Nat)(d:m=l.length)(w:World):
  Calls Tryz.prog 186 #[.agg #[.bool s,.int .i64 N,.slice x m c],.int .i64 q] w fun e w'=>e=.returned (.int .i64 (cB q (s,N,l)))∧ah w w':=by
 have a:∀o,ah w (w.alloc o):=fun o=>(Below.refl w.heap.size w).alloc aL _
 cases s
 ·have n:=ag d
  clear d;go_enter Tryz.func186,Tryz.ntmps186;go_wp2_with fail
  refine(qpv N x m c l q n.o _).mono ?_
  rintro e u⟨rfl,j⟩;have g:=(a _).trans (j.mono (by simp));clear j;go_wp2;go_ret;exact⟨rfl,g⟩
 have b:af (cB q (true,N,l)=if N≠0∨l≠[]then 8 else 0):=rfl;generalize cB q (true,N,l)=r at b⊢;by_cases i:N=0
 ·subst i
  by_cases k:m=0
  ·have f:=ag (show r=0 by rw[b.o,if_neg];rintro(h|h);exact h rfl;exact h (Xb6.1 (by omega)))
   subst k;clear b d;go_enter Tryz.func186,Tryz.ntmps186;go_wp2;go_ret;exact⟨by rw[f.o];rfl,a _⟩
  have f:=ag (show r=8 by rw[b.o,if_pos];exact .inr fun h=>k (by rw[d,h];rfl));clear b d;have p:((m:Int) !=0)=true:=by simpa using(by omega:¬(m:Int)=0)
  go_enter Tryz.func186,Tryz.ntmps186;go_wp2;go_ret;exact⟨by rw[f.o];rfl,a _⟩
 have f:=ag (show r=8 by rw[b.o,if_pos (.inl i)]);clear b d;have t:(N !=0)=true:=Xe1 i;go_enter Tryz.func186,Tryz.ntmps186;go_wp2;go_ret;exact⟨by rw[f.o];rfl,a _⟩
theorem Tm(a1 a2 a3:aA)(n1 c1 n2 c2 n3 c3:Nat)(a:n1<=maxLen)(w:World):
  Calls Tryz.prog 116 #[.agg #[.slice a1 n1 c1,.slice a2 n2 c2,.slice a3 n3 c3]] w fun e w'=>e=.returned (.int .i64 (n1 / 128:Nat))∧ah w w':=by
 unfold maxLen at a;go_enter Tryz.func116,Tryz.ntmps116;go_wp2;go_ret;have e:wrap64 ((n1:Int) / 128)=((n1 / 128:Nat):Int):=by unfold wrap64;omega
 exact⟨by simp[e],ae⟩
theorem qjg(w:World)(hD:kN w v d):
  Calls Tryz.prog 115 #[v] w fun e w'=>e=.returned (.int .i64 (jQ d))∧ah w w':=by
 obtain⟨a1,c1,a2,c2,a3,c3,rfl,L,M,N⟩:=hD.form;have I:d.1.length<=maxLen:=L.len_le;have V:d.2.1.length<=maxLen:=M.len_le;have oh:d.2.2.length<=maxLen:=N.len_le;have H2:=ag M;have H3:=ag N;clear hD L M N;generalize e1:d.1.length=n1 at *;generalize e2:d.2.1.length=n2 at *;generalize e3:d.2.2.length=n3 at *;have O:=ag e1;have P:=ag e2;have Q:=ag e3;clear e1 e2 e3;obtain⟨q,R⟩:=ak (n1 / 128);have W:=ag (show bD d=q by rw[bD,O.o,R]);have HC:=ag (fun a2 a3 C j=>R▸Tm a1 a2 a3 n1 c1 n2 C n3 c3 I j:∀(a2 a3:aA) (C:Nat) j,Calls Tryz.prog 116 #[.agg #[.slice a1 n1 c1,.slice a2 n2 C,.slice a3 n3 c3]] j fun e w'=>e=.returned (.int .i64 q)∧ah j w');have X:=ag R;clear R;unfold maxLen at I V oh;obtain⟨H,Y⟩:=au (w.alloc (.cells #[.slice a1 n1 c1,.slice a2 n2 c2,.slice a3 n3 c3] 27));have g:ah w H:=by rw[<-Y];exact ae
 have D:H.heap[w.heap.size]? =some (.cells #[.slice a1 n1 c1,.slice a2 n2 c2,.slice a3 n3 c3] 27 (0,0)):=by rw[<-Y];exact heap_alloc_new _ _
 obtain⟨k0,k1,k2,_⟩:=cells3 D;have t:=ag (show ¬(d.1.length%128=0∧1<=bD d∧bD d<=4096∧d.2.1.length<=65536∧d.2.2.length<=65536)->jQ d=20 from fun h=>by unfold jQ;rw[Qa h];rfl);by_cases g1:n1<128
 ·have u:=ag (show jQ d=20 from t.o (by have:=W.o;have:=X.o;omega))
  have Z:(n1:Int)<128:=by omega
  go_enter Tryz.func115,Tryz.ntmps115;go_wp2;go_ret;exact⟨by rw[u.o];rfl,g⟩
 have Z:decide ((n1:Int)<128)=false:=aC (by omega);by_cases g2:524288<n1
 ·have u:=ag (show jQ d=20 from t.o (by have:=W.o;have:=X.o;have:=O.o;omega))
  have aa:(524288:Int)<n1:=by omega
  go_enter Tryz.func115,Tryz.ntmps115;go_wp2;go_ret;exact⟨by rw[u.o];rfl,g⟩
 have aa:decide ((524288:Int)<n1)=false:=aC (by omega);by_cases g3:n1%128=0
 case neg=>
  have u:=ag (show jQ d=20 from t.o (by have:=O.o;omega));have ab:((n1:Int)%128 !=0)=true:=by simpa using(by omega:¬(n1:Int)%128=0)
  have J:wrap64 ((n1:Int)%128)=(n1:Int)%128:=by unfold wrap64;omega
  go_enter Tryz.func115,Tryz.ntmps115;go_wp2;go_ret;exact⟨by rw[u.o];rfl,g⟩
 have ab:((n1:Int)%128 !=0)=false:=by simpa using(by omega:(n1:Int)%128=0)
 have J:wrap64 ((n1:Int)%128)=0:=by unfold wrap64;omega
 by_cases g4:65536<n2
 ·have u:=ag (show jQ d=20 from t.o (by have:=P.o;omega))
  have ac:(65536:Int)<n2:=by omega
  go_enter Tryz.func115,Tryz.ntmps115;go_wp2;go_ret;exact⟨by rw[u.o];rfl,g⟩
 have ac:decide ((65536:Int)<n2)=false:=aC (by omega);by_cases g5:65536<n3
 ·have u:=ag (show jQ d=20 from t.o (by have:=Q.o;omega))
  have En:(65536:Int)<n3:=by omega
  go_enter Tryz.func115,Tryz.ntmps115;go_wp2;go_ret;exact⟨by rw[u.o];rfl,g⟩
 have En:decide ((65536:Int)<n3)=false:=aC (by omega);have HO:af (okD d=(d.2.1.all (fun p=>decide (dO q p=0)) && d.2.2.all (fun a=>decide (cB q a=0)))):=by
  show _=_
  have L:=W.o;have M:=X.o;have N:=O.o;have h4:=P.o;have h5:=Q.o;simp only[okD,L];rw[Xd8 (by omega:d.1.length%128=0),Xd8 (by omega:1<=q),Xd8 (by omega:q<=4096),Xd8 (by omega:d.2.1.length<=65536),Xd8 (by omega:d.2.2.length<=65536)];simp
 have ad:=ag (H2.o.a g);have ai:=ag (H3.o.a g);go_enter Tryz.func115,Tryz.ntmps115;go_wp2;clear Y;go_loopw [3] (fun i wr=>∃k:Nat,k<=n2∧i=.int .i64 k∧af (∀p∈d.2.1.take k,dO q p=0)∧ah H wr) (fun i _=>n2-(intOf i).toNat)
 case atStart=>exact⟨0,Xd5 _,rfl,ag (by simp),aF⟩
 obtain⟨k,hk,rfl,r,f⟩:=hrel;have E:ah w wr:=g.trans (f.mono g.size);obtain⟨S,T,U,_⟩:=cells3 (gI _ _ _ _ D f);by_cases aj:k<n2
 ·have z:(k:Int)<n2:=by omega
  have y:k<d.2.1.length:=by have:=P.o;omega
  obtain⟨b,l,rfl,q0,x,m,c,q1,q2,K⟩:=(ad.o.a f).at k y;have HX:=ag K;clear q2 K;have B:aN (fun j=>(j.cell? ⟨w.heap.size,0,none⟩=some (.slice a1 n1 c1)∧j.cell? ⟨w.heap.size,1,none⟩=some (.slice (some ⟨b,l,none⟩) n2 c2)∧j.cell? ⟨w.heap.size,2,none⟩=some (.slice a3 n3 c3))∧(j.cell? ⟨b,l+k*2,none⟩=some (.int .i64 (d.2.1[k]).1)∧j.cell? ⟨b,l+k*2+1,none⟩=some (.slice x m c))∧ah H j):=((aV _ _).and ((aV _ _).and (aV _ _))).and (((aV _ _).and (aV _ _)).and (pQ _));go_wp2;refine iH B (by kernel_rfl) ⟨⟨S,T,U⟩,⟨q0,q1⟩,f⟩ ?_
  intro s;refine rP [0,1,2,3,4,5,6,7,8,9,10,11,12] 3 ?jS ?dP s ?jT
  case dP=>
   iterate 13 (apply Yl.cons rfl (by kernel_rfl);focus (rintro j⟨⟨x1,x2,x3⟩,⟨y1,y2⟩,F⟩;go_simp<;>rfl);try simp only[aB])
   exact Yl.nil
  refine rV B 13 (.int .i64 q) rfl s (HC.o (some ⟨b,l,none⟩) a3 c2 _) ?_
  clear s;intro am s;try simp only[aB]
  refine rV B 14 (.int .i64 (dO q d.2.1[k])) rfl s (qpv _ x m c (d.2.1[k]).2 q HX.o _) ?_
  clear s;intro an s;try simp only[aB]
  refine rT 15 ?qav15 rfl ?Tn s ?qar15
  case Tn=>(rintro j⟨⟨x1,x2,x3⟩,⟨y1,y2⟩,F⟩;go_simp<;>rfl)
  try simp only[aB]
  refine rD ?_
  obtain⟨_,_,A⟩:=s;clear B;have G:=g.trans (A.mono g.size);by_cases n:dO q d.2.1[k]=0
  ·rw[n]
   have HP:=ag n;clear n;go_wp2;go_roundw
   case rel=>
    refine⟨k+1,by omega,by go_num,ag ?_,A⟩;intro p n;rw[Xa2 y]at n;rcases Xa5.1 n with h|h
    ·exact r.o p h
    rw[Xb3.1 h];exact HP.o
   simp[intOf]<;>omega
  have u:=ag (show jQ d=20 by
   unfold jQ;rw[HO.o,Bool.and_eq_false_iff.2 (.inl (List.all_eq_false.2 ⟨d.2.1[k],Xa3 y,by simpa using n⟩))];rfl)
  have al:(dO q d.2.1[k] !=0)=true:=by simpa using n
  generalize dO q d.2.1[k]=pe at *;go_wp2;go_ret;exact⟨by rw[u.o];rfl,G⟩
 have HA:=ag (show d.2.1.all (fun p=>decide (dO q p=0))=true by
  rw[Xc5];intro p n;have:=r.o
  rw[Xa1 (by have:=P.o;omega)]at this;simpa using this p n)
 have z:decide ((k:Int)<n2)=false:=aC (by omega);clear r;go_wp2;go_loopw [4] (fun i wq=>∃k:Nat,k<=n3∧i=.int .i64 k∧af (∀p∈d.2.2.take k,cB q p=0)∧ah H wq) (fun i _=>n3-(intOf i).toNat)
 case atStart=>exact⟨0,Xd5 _,rfl,ag (by simp),f⟩
 clear S T U f E;obtain⟨k,hk,rfl,r,f⟩:=hrel;have E:=g.trans (f.mono g.size);obtain⟨S,T,U,_⟩:=cells3 (gI _ _ _ _ D f);by_cases aj:k<n3
 ·have z:(k:Int)<n3:=by omega
  have y:k<d.2.2.length:=by have:=Q.o;omega
  obtain⟨b,l,rfl,q0,pU,x,m,c,q1,q2,K⟩:=(ai.o.a f).at k y;have HX:=ag K;clear q2 K;have B:aN (fun j=>(j.cell? ⟨w.heap.size,0,none⟩=some (.slice a1 n1 c1)∧j.cell? ⟨w.heap.size,1,none⟩=some (.slice a2 n2 c2)∧j.cell? ⟨w.heap.size,2,none⟩=some (.slice (some ⟨b,l,none⟩) n3 c3))∧(j.cell? ⟨b,l+k*3,none⟩=some (.bool (d.2.2[k]).1)∧j.cell? ⟨b,l+k*3+1,none⟩=some (.int .i64 (d.2.2[k]).2.1)∧j.cell? ⟨b,l+k*3+2,none⟩=some (.slice x m c))∧ah H j):=((aV _ _).and ((aV _ _).and (aV _ _))).and (((aV _ _).and ((aV _ _).and (aV _ _))).and (pQ _));go_wp2;refine iH B (by kernel_rfl) ⟨⟨S,T,U⟩,⟨q0,pU,q1⟩,f⟩ ?_
  intro s;refine rP [0,1,2,3,4,5] 3 ?oI ?iA s ?oJ
  case iA=>
   iterate 6 (apply Yl.cons rfl (by kernel_rfl);focus (rintro j⟨⟨x1,x2,x3⟩,⟨y1,y2,y3⟩,F⟩;go_simp<;>rfl);try simp only[aB])
   exact Yl.nil
  refine rV B 6 (.int .i64 q) rfl s (HC.o a2 (some ⟨b,l,none⟩) c2 _) ?_
  clear s;intro ao s;try simp only[aB]
  refine rV B 7 (.int .i64 (cB q d.2.2[k])) rfl s (qafx _ _ x m c (d.2.2[k]).2.2 q HX.o _) ?_
  clear s;intro ap s;try simp only[aB]
  refine rT 8 ?qbv8 rfl ?qby8 s ?qbr8
  case qby8=>(rintro j⟨⟨x1,x2,x3⟩,⟨y1,y2,y3⟩,F⟩;go_simp<;>rfl)
  try simp only[aB]
  refine rD ?_
  obtain⟨_,_,A⟩:=s;clear B;have G:=g.trans (A.mono g.size);by_cases n:cB q d.2.2[k]=0
  ·rw[n]
   have HP:=ag n;clear n;go_wp2;go_roundw
   case rel=>
    refine⟨k+1,by omega,by go_num,ag ?_,A⟩;intro p n;rw[Xa2 y]at n;rcases Xa5.1 n with h|h
    ·exact r.o p h
    rw[Xb3.1 h];exact HP.o
   simp[intOf]<;>omega
  have u:=ag (show jQ d=20 by
   unfold jQ;rw[HO.o,Bool.and_eq_false_iff.2 (.inr (List.all_eq_false.2 ⟨d.2.2[k],Xa3 y,by simpa using n⟩))];rfl)
  have al:(cB q d.2.2[k] !=0)=true:=by simpa using n
  generalize cB q d.2.2[k]=pe at *;go_wp2;go_ret;exact⟨by rw[u.o];rfl,G⟩
 have z:decide ((k:Int)<n3)=false:=aC (by omega);have u:=ag (show jQ d=0 by
  unfold jQ;rw[HO.o,HA.o,show d.2.2.all (fun p=>decide (cB q p=0))=true by
   rw[Xc5];intro p n;have:=r.o
   rw[Xa1 (by have:=Q.o;omega)]at this;simpa using this p n]
  rfl)
 go_wp2;go_ret;exact⟨by rw[u.o];rfl,E⟩
theorem qc(w:World)(base:Nat)(hb:base<=w.heap.size)(v:Value)(l:az)(a:bG w base v l)(x:Value)(d:az)(k:Rd w x d)(f:l.length+d.length<=140737488355328):
  ∃v' w',(Builtin.append_ #[23,23] 23 #[v,x]).run Tryz.prog w=.ok v' w'∧bG w' base v' (l++d)∧w.grownBy w' v.ownBlock:=by
 obtain⟨m,hi,g,h,i⟩:=info_parts Tryz.infoB;rcases k with⟨rfl,rfl|⟨t,c,rfl⟩⟩|⟨b,n,c,rfl,z,A,e⟩
 ·refine⟨v,w,run_append_owned_none (P:=Tryz.prog) w base 23 23 5 m 1 Tryz.underlying23 hi v l.length (bO l) a,by simpa using a,Xc6 _ _⟩
 ·obtain⟨v',w',o,p,q,_⟩:=run_append_own (P:=Tryz.prog) w base 23 23 5 m _ 1 1 Tryz.underlying23 hi g h i rfl (by decide) v l.length (bO l) a t 0 c [] rfl (by intro j u r;simp at r) (by intro u y;simp at y) (by have:=a.rd.len_le;omega) (by simp at f;omega) hb
  refine⟨v',w',o, ?_,q⟩;show World.ownsRow _ _ _ _ _ _ _
  simpa using p
 obtain⟨v',w',o,p,q,_⟩:=run_append_own (P:=Tryz.prog) w base 23 23 5 m _ 1 1 Tryz.underlying23 hi g h i rfl (by decide) v l.length (bO l) a ⟨b,n,none⟩ d.length c (bO d) (by simp[bO]) (by
  intro j u r;obtain⟨s,rfl⟩:=JN d j u r;rw[Addr.add_lit];exact e j s) (JM d) (by unfold maxLen;omega) (by omega) hb
 refine⟨v',w',o, ?_,q⟩;show World.ownsRow _ _ _ _ _ _ _
 rw[Xa0,PR];exact p
theorem Tp(N:Int)(x:aA)(m d:Nat)(l:az)(w:World)(H:m=l.length)(hl:l.length<=140737488355328)(j:Rd w (.slice x m d) l):
  Calls Tryz.prog 112 #[.agg #[.int .i64 N,.slice x m d]] w fun e w'=>∃v,e=.returned (.agg #[.int .i64 N,v])∧bG w' w.heap.size v l∧ah w w':=by
 have P:=ag j;have U:=ag H;have Q:=ag hl;clear j H hl;obtain⟨b,h⟩:=au ((w.alloc (.cells #[.int .i64 N,.slice x m d] 133)).alloc (.cells #[.int .i64 0,.slice none 0 0] 133));have A:ah w b:=by rw[<-h];exact(ae).alloc (by simp) _
 have n:b.cell? ⟨w.heap.size,0,none⟩=some (.int .i64 N):=by rw[<-h];simp
 have p:b.cell? ⟨w.heap.size,1,none⟩=some (.slice x m d):=by rw[<-h];simp
 have q:b.heap[w.heap.size+1]? =some (.cells #[.int .i64 0,.slice none 0 0] 133 (0,0)):=by rw[<-h];exact uN _ _ _
 have r:w.heap.size+2<=b.heap.size:=by rw[<-h];simp
 go_enter Tryz.func112,Tryz.ntmps112;go_wp2;clear h;have I:aN (fun g=>g.cell? ⟨w.heap.size,0,none⟩=some (.int .i64 N)∧g.cell? ⟨w.heap.size,1,none⟩=some (.slice x m d)∧(∃J K,g.heap[w.heap.size+1]? =some (.cells #[J,K] 133 (0,0)))∧ah w g∧w.heap.size+2<=g.heap.size):=(aV _ _).and ((aV _ _).and ((qjw _ _).and ((pQ w).and (uu _))));refine iH I (by kernel_rfl) ⟨n,p,⟨_,_,q⟩,A,r⟩ ?_
 intro c;refine rP [0,1,2,3] 3 ?jS ?dP c ?jT
 case dP=>
  iterate 4 (apply Yl.cons rfl (by kernel_rfl);focus (rintro g⟨B,C,z,i,D⟩;go_simp<;>rfl);try simp only[aB])
  exact Yl.nil
 obtain⟨V,L,f,s,E⟩:=qc b.drew (w.heap.size+2) (by simpa using c.2.2.2.2) (.slice none 0 0) [] (Xa7 _ _ _ _) (.slice x m d) l (P.o.a c.2.2.2.1) (by simpa using Q.o);obtain⟨F,G,rfl⟩:=s.form;have R:Below b.drew.heap.size b.drew L:=aF.grown E aL (fun k t=>by cases t);have M:=I _ _ c R;refine rR 4 (.slice F ([]++l).length G) L rfl (Ep (v:=.slice none 0 0) (y:=.slice x m d) rfl rfl rfl f) M ?_
 clear c f;have c:=M;try simp only[aB]
 refine rT 5 ?RQ rfl ?BO c ?RU
 case BO=>(rintro g⟨B,C,z,i,D⟩;go_simp<;>rfl)
 try simp only[aB]
 obtain⟨B,C,⟨J,K,z⟩,i,D⟩:=c;obtain⟨ws,O,u,a⟩:=RO (.int .i64 N) (.slice F l.length G) z;obtain⟨W,X,Y⟩:=RP z;refine rN 6 ws rfl (by rw[<-O];go_simp) ⟨a.cell B (by simp),a.cell C (by simp),⟨_,_,u⟩,i.grown a i.size (fun k t=>by cases t;simp),aG D a.size⟩ ?_
 try simp only[aB]
 refine rD ?_
 have S:ah w ws:=i.grown a i.size (fun k t=>by cases t;simp);have T:=s.grown a (by simp);obtain⟨Z,q2,_⟩:=RP u;clear O n p q r;go_wp2;refine bodyPost_ret (v:=.agg #[.int .i64 N,.slice F l.length G]) ?_ rfl ⟨_,rfl,T.mono (by omega),S⟩
 simp[results,Tryz.results112,go_sem, *]
theorem qr8(a:aA)(n c:Nat)(l:List Ac)(w:World)(hn:n=l.length)(hl:l.length<=1000000)(hd:∀p∈l,p.2.2.length<=140737488355328)(H:pJ w (.slice a n c) l):
  Calls Tryz.prog 113 #[.slice a n c] w fun e w'=>∃v,e=.returned v∧mP w' w.heap.size v l∧ah w w':=by
 have HC:=ag H;have X:=ag hn;have HD:=ag hd;have ab:n<=1000000:=by omega
 clear H hn hl hd;go_enter Tryz.func113,Tryz.ntmps113;go_wp2;go_loopw [3,4] (fun v i wr=>∃(k:Nat) (z:List (Ac×Value)),k<=n∧i=.int .i64 k∧af (z.map (·.1)=l.take k)∧af (wr.ownsRow w.heap.size 206 3 v z.length (xH z))∧af (∀p∈z,bG wr w.heap.size p.2 p.1.2.2)∧ah w wr) (fun _ i _=>n-(intOf i).toNat)
 case atStart=>exact⟨0,[],Xd5 _,rfl,rfl,Xa7 _ _ _ _,by show ∀p∈_,_;simp,aF⟩
 obtain⟨k,z,hk,rfl,N,O,hp,d⟩:=hrel;by_cases ac:k<n
 ·have I:(k:Int)<n:=by omega
  have B:k<l.length:=by have:=X.o;omega
  have ad:z.length=k:=by
   have:=congrArg List.length N.o
   rw[Xd1,Xa4]at this;omega
  obtain⟨b,f,rfl,Q,Y,x,m,R,Z,q2,q3⟩:=HC.o.at k B;have C:b<w.heap.size:=Xa6 w _ Q;have C0:=ag Q;have C1:=ag Y;have C2:=ag Z;have HQ:=ag (q2.a d);have E8:=ag q3;have S:aN (fun g=>g.cell? ⟨b,f+k*3,none⟩=some (.bool (l[k]).1)∧g.cell? ⟨b,f+k*3+1,none⟩=some (.int .i64 (l[k]).2.1)∧g.cell? ⟨b,f+k*3+2,none⟩=some (.slice x m R)∧ah w g):=(aV _ _).and ((aV _ _).and ((aV _ _).and (pQ _)));have D:(fun g=>g.cell? ⟨b,f+k*3,none⟩=some (.bool (l[k]).1)∧g.cell? ⟨b,f+k*3+1,none⟩=some (.int .i64 (l[k]).2.1)∧g.cell? ⟨b,f+k*3+2,none⟩=some (.slice x m R)∧ah w g) wr:=⟨aV _ _ _ _ Q d,aV _ _ _ _ Y d,aV _ _ _ _ Z d,d⟩;clear Q Y Z q2 q3;go_wp2;refine iH S (by kernel_rfl) D ?_
  intro r;refine rP [0,1,2,3,4,5,6,7,8,9,10] 5 ?oI ?iA r ?oJ
  case iA=>
   iterate 11 (apply Yl.cons rfl (by kernel_rfl);focus (rintro g⟨x1,x2,x3,x4⟩;go_simp<;>rfl);try simp only[aB])
   exact Yl.nil
  refine rC 11 (fun v wy=>∃p T,v=.agg #[.int .i64 (l[k]).2.1,.slice p (l[k]).2.2.length T]∧bG wy wr.heap.size (.slice p (l[k]).2.2.length T) (l[k]).2.2∧ah wr wy) rfl ((Tp (l[k]).2.1 x m R (l[k]).2.2 wr.drew E8.o (HD.o _ (Xa3 B)) (HQ.o.a aI)).mono fun e wy ⟨v,h1,h2,h3⟩=>by obtain⟨p,T,rfl⟩:=h2.form;exact⟨_,h1,p,T,rfl,h2,aF.drew.trans h3⟩) ?_
  rintro ai s⟨E,F,rfl,sQ,bE⟩;have dQ:=S _ _ D bE;refine⟨dQ, ?_⟩;clear r;have r:=dQ;try simp only[aB]
  refine rT 12 ?qtv12 rfl ?Tq r ?qtr12
  case Tq=>(rintro g⟨x1,x2,x3,x4⟩;go_simp<;>rfl)
  try simp only[aB]
  refine rR 13 (.slice (some ⟨s.heap.size,0,none⟩) 1 1) (s.alloc (.cells #[.bool (l[k]).1,.int .i64 (l[k]).2.1,.slice E (l[k]).2.2.length F] 206)) rfl (by go_simp) (S _ _ r (ae)) ?_
  obtain⟨U,gK⟩:=ak (s.alloc (.cells #[.bool (l[k]).1,.int .i64 (l[k]).2.1,.slice E (l[k]).2.2.length F] 206));rw[<-gK];have cZ:ah s U:=by rw[gK];exact ae
  have iw:∀j u,([Value.bool (l[k]).1,.int .i64 (l[k]).2.1,.slice E (l[k]).2.2.length F]:List Value)[j]? =some u->U.cell? ((⟨s.heap.size,0,none⟩:Addr).add j)=some u:=by
   intro j u J;rw[gK];have:=World.news_of_block (w:=s.alloc (.cells #[.bool (l[k]).1,.int .i64 (l[k]).2.1,.slice E (l[k]).2.2.length F] 206)) (heap_alloc_new s _) j u (by simpa using J)
   simpa using this
  have G:=bE.trans (cZ.mono bE.size);obtain⟨i0,hi,K,L,M⟩:=info_parts Tryz.infoAct;obtain⟨v9,V,aW,aO,bu,_⟩:=run_append_own (P:=Tryz.prog) U w.heap.size 25 25 206 i0 _ 3 40 Tryz.underlying25 hi K L M rfl (by decide) _ _ _ (pI O.o G) ⟨s.heap.size,0,none⟩ 1 1 [.bool (l[k]).1,.int .i64 (l[k]).2.1,.slice E (l[k]).2.2.length F] rfl iw (by intro u hu;simp at hu;rcases hu with rfl|rfl|rfl<;>rfl) (by unfold maxLen;omega) (by omega) (aG d.size G.size);have A:∀j,(u3).ownBlock=some j->∃cs t fr,U.heap[j]? =some (.cells cs t fr)∧t≠5:=fun j J=>by
   obtain⟨cs,h⟩:=zn (pI O.o G) j J;exact⟨cs,_,_,h,by decide⟩
  have bI:ah w V:=(d.trans (G.mono d.size)).grown bu (aG d.size G.size) (fun j J=>(O.o.lt j J).1);have q:∀(W:Nat) (oo:Nat) (u:Value),W<w.heap.size->w.cell? ⟨W,oo,none⟩=some u->V.cell? ⟨W,oo,none⟩=some u:=fun W oo u h1 h2=>by rw[bI.cell h1];exact h2
  have bV:(fun g=>g.cell? ⟨b,f+k*3,none⟩=some (.bool (l[k]).1)∧g.cell? ⟨b,f+k*3+1,none⟩=some (.int .i64 (l[k]).2.1)∧g.cell? ⟨b,f+k*3+2,none⟩=some (.slice x m R)∧ah w g) V:=⟨q _ _ _ C C0.o,q _ _ _ C C1.o,q _ _ _ C C2.o,bI⟩;clear hi K L M iw;try simp only[aB]
  refine rR 14 v9 V rfl (Ep (v:=u3) (y:=.slice (some ⟨s.heap.size,0,none⟩) 1 1) rfl rfl rfl aW) bV ?_
  clear r;have r:=bV;try simp only[aB]
  refine rT 15 ?qtv15 rfl ?Tt r ?qtr15
  case Tt=>(rintro g⟨x1,x2,x3,x4⟩;go_simp<;>rfl)
  try simp only[aB]
  refine rD ?_
  clear r dQ bV D S aW;go_wp2;go_roundw
  case rel=>
   refine⟨k+1,z++[(l[k],.slice E (l[k]).2.2.length F)],by omega,by go_num, ?_, ?_, ?_,bI⟩
   ·show _=_
    rw[Xd0,N.o,Xa2 B];rfl
   ·show World.ownsRow _ _ _ _ _ _ _
    rw[RS,Xa0];exact aO
   intro p aa;rcases Xa5.1 aa with h|h
   ·exact((hp.o p h).a G).keptT bu A
   rw[Xb3.1 h];exact((sQ.a cZ).keptT bu A).mono d.size
  simp[intOf]<;>omega
 have I:decide ((k:Int)<n)=false:=aC (by omega);go_wp2;go_ret;refine⟨_,rfl,⟨z, ?_, ?_,hp.o⟩,d⟩
 ·rw[N.o,Xa1 (by have:=X.o;omega)]
 have e:l.length=z.length:=by
  have:=congrArg List.length N.o
  rw[Xd1,Xa4]at this;have:=X.o
  omega
 rw[e];exact O.o
theorem qakg{a:World}{base y B:Nat}{X Z:Value}{K:az}{n:aA}{f o:Nat}{l:List Pu}{N:Int}{c:az}{q:aA}{r:Nat}
  (C:B<=a.heap.size) (hd:a.heap[y]? =some (.cells #[X,.slice n f o,Z] 27 (0,0))) (O:bG a base X K) (Q:lM a B (.slice n f o) l) (R:bG a B (.slice q c.length r) c) (hl:f=l.length∧l.length<=1000000):
  ∃s v m,(Builtin.append_ #[24,24] 24 #[.slice n f o,.slice (some ⟨a.heap.size,0,none⟩) 1 1]).run Tryz.prog (a.alloc (.cells #[.int .i64 N,.slice q c.length r] 133))=.ok (.slice s (f+1) v) m∧a.grownBy m (Value.slice n f o).ownBlock∧
   m.heap[y]? =some (.cells #[X,.slice n f o,Z] 27 (0,0))∧bG m base X K∧lM m B (.slice s (f+1) v) (l++[(N,c)]):=by
 obtain⟨rfl,hl⟩:=hl;obtain⟨A,D⟩:=ak (a.alloc (.cells #[.int .i64 N,.slice q c.length r] 133));rw[<-D];have x:ah a A:=by rw[D];exact ae
 have S:∀j u,([Value.int .i64 N,.slice q c.length r]:List Value)[j]? =some u->A.cell? ((⟨a.heap.size,0,none⟩:Addr).add j)=some u:=by
  intro j u T;rw[D];have:=World.news_of_block (w:=a.alloc (.cells #[.int .i64 N,.slice q c.length r] 133)) (heap_alloc_new a _) j u (by simpa using T)
  simpa using this
 obtain⟨U,hi,E,F,G⟩:=info_parts Tryz.infoPut;obtain⟨z,V,H,W⟩:=Q.a x;obtain⟨Y,m,aW,L,d,_⟩:=run_append_own (P:=Tryz.prog) A B 24 24 133 U _ 2 32 Tryz.underlying24 hi E F G rfl (by decide) _ _ _ H ⟨a.heap.size,0,none⟩ 1 1 [.int .i64 N,.slice q c.length r] rfl S (by intro u M;simp at M;rcases M with rfl|rfl<;>rfl) (by unfold maxLen;omega) (by omega) (aG C x.size);have I:=gI _ _ _ _ hd x;have b:∀k,(Value.slice n l.length o).ownBlock=some k->∃cs t fr,A.heap[k]? =some (.cells cs t fr)∧t≠5:=fun k hk=>by
  obtain⟨cs,h⟩:=zn H k hk;exact⟨cs,_,_,h,by decide⟩
 have iI:m.heap[y]? =some (.cells #[X,.slice n l.length o,Z] 27 (0,0)):=by
  refine(d.block y (Xd6.1 I).1 ?_).trans I;intro e;obtain⟨cs,h⟩:=zn H y e.symm;rw[I]at h;cases h
 obtain⟨s,v,rfl⟩:∃s v,Y=.slice s (l.length+1) v:=by
  rcases L.2 with⟨_,h⟩|⟨g,cap,aa,h,_⟩
  ·exact absurd h (by omega)
  exact⟨_,_,h⟩
 refine⟨s,v,m,aW, ?_,iI,(O.a x).keptT d b,⟨z++[((N,c),.slice q c.length r)],by simp[V], ?_,fun p J=>?_⟩⟩
 ·have:=Aj x
  exact⟨d.os.trans this.os,d.tape.trans this.tape,d.output.trans this.output,aG this.size d.size,fun i hi hr=>(d.block i (Xb8 hi this.size) hr).trans (this.block i hi (by simp))⟩
 ·rw[qhn,Xa0];exact L
 rcases Xa5.1 J with h|h
 ·exact(W p h).keptT d b
 rw[Xb3.1 h];exact(R.a x).keptT d b
theorem qwq(w:World)(hD:kN w v d)(b1:d.1.length<=140737488355328)(b2:d.2.1.length<=1000000)(b3:d.2.2.length<=1000000)(d2:∀p∈d.2.1,p.2.length<=140737488355328)(d3:∀p∈d.2.2,p.2.2.length<=140737488355328):
  Calls Tryz.prog 53 #[v] w fun e w'=>∃x y z B,e=.returned (.agg #[x,y,z])∧w.heap.size<=B∧bG w' w.heap.size x d.1∧(∀g,x.ownBlock=some g->g<B)∧lM w' B y d.2.1∧mP w' B z d.2.2∧B<=w'.heap.size∧ah w w':=by
 obtain⟨a1,c1,a2,c2,a3,c3,rfl,h1,h2,h3⟩:=hD.form;have H1:=ag h1;have H2:=ag h2;have H3:=ag h3;have a0:=ag b1;have aa:=ag b2;have a4:=ag b3;have Tu:=ag d2;have a5:=ag d3;clear hD h1 h2 h3 b1 b2 b3 d2 d3;generalize e1:d.1.length=n1 at *;generalize e2:d.2.1.length=n2 at *;generalize e3:d.2.2.length=n3 at *;have E1:=ag e1;have E2:=ag e2;have E3:=ag e3;clear e1 e2 e3;have bo:n2<=1000000:=by have:=aa.o;have:=E2.o;omega
 obtain⟨A,K⟩:=au ((w.alloc (.cells #[.slice a1 n1 c1,.slice a2 n2 c2,.slice a3 n3 c3] 27)).alloc (.cells #[.slice none 0 0,.slice none 0 0,.slice none 0 0] 27));have P:ah w A:=by rw[<-K];exact(ae).alloc (by simp) _
 have k0:A.cell? ⟨w.heap.size,0,none⟩=some (.slice a1 n1 c1):=by rw[<-K];simp
 have k1:A.cell? ⟨w.heap.size,1,none⟩=some (.slice a2 n2 c2):=by rw[<-K];simp
 have k2:A.cell? ⟨w.heap.size,2,none⟩=some (.slice a3 n3 c3):=by rw[<-K];simp
 have ab:A.heap[w.heap.size+1]? =some (.cells #[.slice none 0 0,.slice none 0 0,.slice none 0 0] 27 (0,0)):=by rw[<-K];exact uN _ _ _
 have hs1:w.heap.size+2<=A.heap.size:=by rw[<-K];simp
 obtain⟨vx,Q,Cc,r,ac⟩:=qc A A.heap.size aL (.slice none 0 0) [] (Xa7 _ _ _ _) (.slice a1 n1 c1) d.1 (H1.o.a P) (by simpa [E1.o]using a0.o);obtain⟨L,M,rfl⟩:=r.form;have I:ah A Q:=aF.grown ac aL (fun k hk=>by cases hk);have ad:A.heap[w.heap.size]? =some (.cells #[.slice a1 n1 c1,.slice a2 n2 c2,.slice a3 n3 c3] 27 (0,0)):=by
  rw[<-K,heap_alloc_old _ _ (by simp)];exact heap_alloc_new _ _
 have ai:([]++d.1:az).length=n1:=by simpa using E1.o
 rw[ai]at Cc r;have r:bG Q A.heap.size (.slice L n1 M) d.1:=r;obtain⟨R,pV⟩:=au (Q.alloc (.cells #[.slice L n1 M,.slice none 0 0,.slice none 0 0] 27));have S:ah Q R:=by rw[<-pV];exact ae
 have aj:R.heap[Q.heap.size]? =some (.cells #[.slice L n1 M,.slice none 0 0,.slice none 0 0] 27 (0,0)):=by rw[<-pV];exact heap_alloc_new _ _
 have al:R.heap.size=Q.heap.size+1:=by rw[<-pV];simp
 have Fv:=I.trans (S.mono I.size);have a6:ah w R:=P.trans (Fv.mono P.size);have a7:=gI _ _ _ _ ad Fv;have a8:=gI _ _ _ _ ab Fv;have Ce:=ag (r.a S);have am:=ag (show ∀g,(Value.slice L n1 M).ownBlock=some g->g<R.heap.size from fun g hg=>by have:=(World.ownsRow.lt r g hg).2;omega);have an:=I.size;have ao:=ag pV;clear pV;go_enter Tryz.func53,Tryz.ntmps53;go_wp2_with (at_builtin;go_must (refine qfj A rfl (.const (.slice none 0 0)) (.tmp 6) 23 rfl (v:=.slice none 0 0) (y:=.slice a1 n1 c1) rfl rfl Cc ?_))
 rw[ao.o];obtain⟨gO,ap⟩:=ak Q.heap.size;obtain⟨B,eB⟩:=ak R.heap.size;rw[<-ap]at aj al an⊢;rw[<-eB]at am al;have aq:B<=R.heap.size:=by omega
 clear K ao Cc r ac I S Fv k0 k1 k2 ad ab ai ap eB;go_loopw [4] (fun i wr=>∃(k:Nat) (G:aA) (s H:Nat),k<=n2∧i=.int .i64 k∧wr.heap[gO]? =some (.cells #[.slice L n1 M,.slice G s H,.slice none 0 0] 27 (0,0))∧af (bG wr A.heap.size (.slice L n1 M) d.1)∧af (lM wr B (.slice G s H) (d.2.1.take k))∧af (s=(d.2.1.take k).length)∧wr.heap[w.heap.size]? =some (.cells #[.slice a1 n1 c1,.slice a2 n2 c2,.slice a3 n3 c3] 27 (0,0))∧wr.heap[w.heap.size+1]? =some (.cells #[.slice none 0 0,.slice none 0 0,.slice none 0 0] 27 (0,0))∧B<=wr.heap.size∧ah w wr) (fun i _=>n2-(intOf i).toNat)
 case atStart=>exact⟨0,none,0,0,Xd5 _,rfl,aj,Ce.o,⟨[],rfl,Xa7 _ _ _ _,by simp⟩,rfl,a7,a8,aq,a6⟩
 obtain⟨k,G,s,H,hk,rfl,n,hX,T,ba,U,V,F,a⟩:=hrel;obtain⟨m0,m1,m2,_⟩:=cells3 U;by_cases bp:k<n2
 ·have ar:(k:Int)<n2:=by omega
  have J:k<d.2.1.length:=by have:=E2.o;omega
  obtain⟨b,l,rfl,q0,x,m,c9,q1,q2,q3⟩:=H2.o.at k J;have br:b<w.heap.size:=Xa6 w _ q0;have W:w.heap.size<B:=by omega
  have av:b<B:=by omega
  have HQ:=ag (q2.a a);have E8:=ag q3;have aw:s=(d.2.1.take k).length∧(d.2.1.take k).length<=1000000:=⟨ba.o,by rw[Xa4];have:=aa.o;have:=E2.o;omega⟩;have ax:=ag aw;obtain⟨_,yy,_,_⟩:=cells3 n;have hK:aN (fun c=>(c.cell? ⟨w.heap.size,0,none⟩=some (.slice a1 n1 c1)∧c.cell? ⟨w.heap.size,1,none⟩=some (.slice (some ⟨b,l,none⟩) n2 c2)∧c.cell? ⟨w.heap.size,2,none⟩=some (.slice a3 n3 c3))∧(c.cell? ⟨b,l+k*2,none⟩=some (.int .i64 (d.2.1[k]).1)∧c.cell? ⟨b,l+k*2+1,none⟩=some (.slice x m c9))∧c.cell? ⟨gO,1,none⟩=some (.slice G s H)∧ah w c):=((aV _ _).and ((aV _ _).and (aV _ _))).and (((aV _ _).and (aV _ _)).and ((aV _ _).and (pQ _)));have X:(fun c=>(c.cell? ⟨w.heap.size,0,none⟩=some (.slice a1 n1 c1)∧c.cell? ⟨w.heap.size,1,none⟩=some (.slice (some ⟨b,l,none⟩) n2 c2)∧c.cell? ⟨w.heap.size,2,none⟩=some (.slice a3 n3 c3))∧(c.cell? ⟨b,l+k*2,none⟩=some (.int .i64 (d.2.1[k]).1)∧c.cell? ⟨b,l+k*2+1,none⟩=some (.slice x m c9))∧c.cell? ⟨gO,1,none⟩=some (.slice G s H)∧ah w c) wr:=⟨⟨m0,m1,m2⟩,⟨aV _ _ _ _ q0 a,aV _ _ _ _ q1 a⟩,yy,a⟩;clear q0 q1 q2 q3 aw;go_wp2;refine sK hK 11 (by kernel_rfl) X ?_
  intro O;refine lP [0,1,2,3,4,5,6] 5 ?jS ?dP O ?jT
  case dP=>
   iterate 7 (apply Yl.cons rfl (by kernel_rfl);focus (rintro c⟨⟨x1,x2,x3⟩,⟨y1,y2⟩,z1,ay⟩;go_simp<;>rfl);try simp only[aB])
   exact Yl.nil
  refine lC 7 (fun v wy=>∃p kk,v=.agg #[.int .i64 (d.2.1[k]).1,.slice p (d.2.1[k]).2.length kk]∧bG wy wr.heap.size (.slice p (d.2.1[k]).2.length kk) (d.2.1[k]).2∧ah wr wy) rfl ((Tp (d.2.1[k]).1 x m c9 (d.2.1[k]).2 wr.drew E8.o (Tu.o _ (Xa3 J)) (HQ.o.a aI)).mono fun e wy ⟨v,h1,h2,h3⟩=>by obtain⟨p,kk,rfl⟩:=h2.form;exact⟨_,h1,p,kk,rfl,h2,aF.drew.trans h3⟩) ?_
  rintro bt w7⟨p7,k7,rfl,sQ,C⟩;have dQ:=hK _ _ X C;obtain⟨a9,Y,w9,aW,bu,iI,aD,aE⟩:=qakg (N:=(d.2.1[k]).1) (aG F C.size) (gI _ _ _ _ n C) (hX.o.a C) (T.o.a C) (sQ.mono F) ax.o;have bI:ah w w9:=(a.trans (C.mono a.size)).grown bu (aG a.size C.size) (fun j f=>by
   obtain⟨z,_,h,_⟩:=T.o;have:=(h.lt j f).1
   omega)
  have D:∀bb,bb<B->(∀oo u,w7.cell? ⟨bb,oo,none⟩=some u->w9.cell? ⟨bb,oo,none⟩=some u):=fun bb bv oo u h=>bu.cell h (fun e=>by
   obtain⟨z,_,hh,_⟩:=T.o;have:=(hh.lt bb e.symm).1
   omega)
  have bV:(fun c=>(c.cell? ⟨w.heap.size,0,none⟩=some (.slice a1 n1 c1)∧c.cell? ⟨w.heap.size,1,none⟩=some (.slice (some ⟨b,l,none⟩) n2 c2)∧c.cell? ⟨w.heap.size,2,none⟩=some (.slice a3 n3 c3))∧(c.cell? ⟨b,l+k*2,none⟩=some (.int .i64 (d.2.1[k]).1)∧c.cell? ⟨b,l+k*2+1,none⟩=some (.slice x m c9))∧c.cell? ⟨gO,1,none⟩=some (.slice G s H)∧ah w c) w9:=by
   obtain⟨⟨x1,x2,x3⟩,⟨y1,y2⟩,z1,ay⟩:=dQ;obtain⟨_,zz,_,_⟩:=cells3 iI;exact⟨⟨D _ W _ _ x1,D _ W _ _ x2,D _ W _ _ x3⟩,⟨D _ av _ _ y1,D _ av _ _ y2⟩,zz,bI⟩
  obtain⟨ws,fI,bc,t⟩:=R4 (.slice a9 (s+1) Y) iI;obtain⟨z1,z2,z3,z4⟩:=cells3 iI;refine⟨dQ, ?_⟩;clear O;have O:=dQ;try simp only[aB]
  refine lR 8 (.slice (some ⟨w7.heap.size,0,none⟩) 1 1) (w7.alloc (.cells #[.int .i64 (d.2.1[k]).1,.slice p7 (d.2.1[k]).2.length k7] 133)) rfl (by go_simp) (fun _=>hK _ _ O (ae)) ?_
  try simp only[aB]
  refine lR 9 (.slice a9 (s+1) Y) w9 rfl (Ep (v:=.slice G s H) (y:=.slice (some ⟨w7.heap.size,0,none⟩) 1 1) rfl rfl rfl aW) (fun _=>bV) ?_
  clear O;have O:=bV;try simp only[aB]
  refine lT 10 ?uR rfl ?kR O ?uS
  case kR=>(rintro c⟨⟨x1,x2,x3⟩,⟨y1,y2⟩,z1,ay⟩;go_simp<;>rfl)
  try simp only[aB]
  refine lL 11 ws rfl (by rw[<-fI];go_simp) ?_
  try simp only[aB]
  refine lD ?_
  have Tv:=C;have KG:w9.heap[w.heap.size]? =_:=(bu.block _ (Xb8 (Xd6.1 U).1 C.size) (fun e=>by
   obtain⟨z,_,h,_⟩:=T.o;have:=(h.lt _ e.symm).1
   omega)).trans (gI _ _ _ _ U C)
  have KH:w9.heap[w.heap.size+1]? =_:=(bu.block _ (Xb8 (Xd6.1 V).1 C.size) (fun e=>by
   obtain⟨z,_,h,_⟩:=T.o;have:=(h.lt _ e.symm).1
   omega)).trans (gI _ _ _ _ V C)
  have aH:=(t.block _ (Xd6.1 KG).1 (by intro e;injection e with e;omega)).trans KG;have aJ:=(t.block _ (Xd6.1 KH).1 (by intro e;injection e with e;omega)).trans KH;have bd:ah w ws:=bI.grown t bI.size (fun j f=>by cases f;omega);have aK:=aD.keptT t (fun j f=>by cases f;exact⟨_,_,_,iI,by decide⟩);have aM:=aE.keptT t (fun j f=>by cases f;exact⟨_,_,_,iI,by decide,by decide⟩);have rG:B<=ws.heap.size:=aG F (aG C.size (aG bu.size t.size));have be:=ag aK;have bg:=ag aM;clear O dQ bV X hK aW aK aM fI z1 z2 z3 z4 m0 m1 m2 yy aD aE D KG KH t bu iI;go_wp2;go_roundw
  case rel=>
   refine⟨k+1,a9,s+1,Y,by omega,by go_num,bc,be, ?_, ?_,aH,aJ,rG,bd⟩
   ·show lM _ _ _ _
    rw[Xa2 J];exact bg.o
   show _=_
   rw[Xa2 J,Xa0,ax.o.1];rfl
  simp[intOf]<;>omega
 have ar:decide ((k:Int)<n2)=false:=aC (by omega);obtain⟨o0,o1,o2,o3⟩:=cells3 n;have aO:lM wr B (.slice G s H) d.2.1:=by
  have:=T.o
  rw[Xa1 (by have:=E2.o;omega)]at this;exact this
 have bh:=ag aO;clear aO;go_wp2_with fail
 refine(qr8 a3 n3 c3 d.2.2 _ E3.o.symm (by have:=a4.o;have:=E3.o;omega) a5.o (H3.o.a a)).mono ?_
 rintro e bj⟨vz,rfl,hZ,Z⟩;obtain⟨pz,kz,rfl⟩:=hZ.rd.form;have nP:=gI _ _ _ _ n Z;have Cf:=gI _ _ _ _ V Z;have KI:ah w bj:=a.trans (Z.mono a.size);obtain⟨wu,bw,Hg,q⟩:=R5 (.slice pz d.2.2.length kz) nP;obtain⟨u1,u2,u3,u4⟩:=cells3 nP;obtain⟨t1,t2,t3,t4⟩:=cells3 Hg;have aS:some (w.heap.size+1)≠some gO:=fun e=>by injection e with e;omega
 have Au:=(q.block _ (Xd6.1 Cf).1 aS).trans Cf;obtain⟨wv,bz,aY,E⟩:=sO (.slice L n1 M) (.slice G s H) (.slice pz d.2.2.length kz) Au;obtain⟨r1,r2,r3,r4⟩:=cells3 Au;obtain⟨f1,f2,f3,f4⟩:=cells3 aY;have bk:ah w wv:=(KI.grown q KI.size (fun j f=>by cases f;omega)).grown E (aG KI.size q.size) (fun j f=>by cases f;simp);have bl:=ag (((hX.o.a Z).keptT q (fun j f=>by cases f;exact⟨_,_,_,nP,by decide⟩)).keptT E (fun j f=>by cases f;exact⟨_,_,_,Au,by decide⟩));have bm:=ag (((bh.o.a Z).keptT q (fun j f=>by cases f;exact⟨_,_,_,nP,by decide,by decide⟩)).keptT E (fun j f=>by cases f;exact⟨_,_,_,Au,by decide,by decide⟩));have bn:=ag (((hZ.mono F).keptT q (fun j f=>by cases f;exact⟨_,_,_,nP,by decide,by decide⟩)).keptT E (fun j f=>by cases f;exact⟨_,_,_,Au,by decide,by decide⟩));have Tw:B<=wv.heap.size:=aG F (aG Z.size (aG q.size E.size));clear Hg q aY E n hX T nP Cf Au hZ Z;go_wp2;refine bodyPost_ret (v:=.agg #[.slice L n1 M,.slice G s H,.slice pz d.2.2.length kz]) ?_ rfl ⟨_,_,_,B,rfl,by omega,bl.o.mono (by omega),am.o,bm.o,bn.o,Tw,bk⟩
 simp[results,Tryz.results53,go_sem, *]
end Go.Proofs.YtmeaiocohalphaaGreatDoor
