/-
  Tables (api.Meta) in memory: rows, variables; levels: rows of rows; versions in variables. How each reads, and what is one's own.
-/
import Derived.Test.YtmeaiocohalphaaGreatDoorWal6
set_option maxHeartbeats 4000000
set_option maxRecDepth 100000
namespace Go.Proofs.YtmeaiocohalphaaGreatDoor
open Go.RowKit
set_option linter.all false
variable {w w' w0:World}{f:aR}{b v:Value}{A base c k n sz:Nat}{α:Type}{P:Program}{t:TypeId}{m:dn}{d nx sq:Int}{e lg:az}
theorem dW.oth{r q:Nat}(h:dW w r)(c:w.grownBy w' (some q))(a:r≠q):dW w' r:=by
 obtain⟨d,f,g,i,j,k,b⟩:=h;exact⟨d,f,g,i,j,k,(c.block r (Xd6.1 b).1 (fun e=>a (Option.some.inj e))).trans b⟩
theorem VZ{s b:az}(d:jq f)(h:(fe f s b k).2=0):jq (fe f s b k).1:=by
 by_cases a:(l6 f s (dX b.length:Nat)).2≠0
 ·unfold fe at h
  rw[if_pos a]at h;exact absurd h a
 have e:fe f s b k=ny (l6 f s (dX b.length:Nat)).1 s 0 (di b) k:=by unfold fe;rw[if_neg a]
 rw[e]at h⊢;have c:=qoo (Decidable.not_not.1 a);exact qalb (Gj (by rw[c.2.1];exact c.2.2.1)) k h
theorem qvg{x:aU}(h:bH w base x.val f):iJ w x f:=by
 obtain⟨y,e,a,_⟩:=h.bx;have:x=y:=qala e
 rw[this];exact a
theorem qxw(x:aU)(f:aR)(s:az)(ab:aA)(S cb:Nat)(b:az)(w:World)(h:iJ w x f)(hw:jq f)(hb:Rd w (.slice ab S cb) b)(hn:S=b.length):
  Calls Tryz.prog 12 #[x.val,.string (bs s),.slice ab S cb] w fun e w'=>∃v,e=.returned (.tuple #[v,.int .i64 (mE f s b).2])∧bH w' w.heap.size v (mE f s b).1∧ah w w':=by
 have HX:=ag h;have HW:=ag hw;have fu:=ag hb;have HN:=ag hn;have q0:ah w (w.alloc (.cells x.cs 33)):=ae;have aj:(w.alloc (.cells x.cs 33)).heap.size=w.heap.size+1:=by simp
 obtain⟨w1,ew⟩:=au ((w.alloc (.cells x.cs 33)).alloc (.cells #[.slice none 0 0,.slice none 0 0,.slice none 0 0,.int .u32 0,.slice none 0 0,.slice none 0 0] 33));have q1:Below (w.alloc (.cells x.cs 33)).heap.size (w.alloc (.cells x.cs 33)) w1:=by rw[<-ew];exact ae
 have fD:=ag (show bB w1 w.heap.size x from(Bq.new w 33 x.cs).a q1);have qE:=ag (show dW w1 (w.heap.size+1)by rw[<-ew,<-aj];exact dW.new _);have bg:=ag (show ah w w1 from q0.trans (q1.mono (by omega)));obtain⟨k0,k1,k2,k3,k4,k5⟩:=bq fD.o;clear h hw hb hn q0 q1 aj;unfold aU.val;unfold aU.cs at ew;go_enter Tryz.func12,Tryz.ntmps12;go_wp2_with fail
 try rw[ew]
 refine(Va x f w1 (HX.o.a bg.o) HW.o).mono ?_
 rintro e w2⟨rfl,A⟩;have jZ:=ag (fD.o.a A);have j6:=ag (qE.o.a A);have aY:=ag (bg.o.trans (A.mono bg.o.size));clear k0 k1 k2 k3 k4 k5 ew A;obtain⟨E,hE⟩:=ak (eF f);rw[<-hE];have mM:=ag hE;clear hE;by_cases g1:E=0
 case neg=>
  have B:=ag (VQ (f:=f) (s:=s) (b:=b) (by rw[<-mM.o];exact g1));have g2:(E !=0)=true:=Xe1 g1;have g3:(E==0)=false:=Xe2 g1;obtain⟨w9,d0,d1,d2,d3,d4,d5,aM,d,e0,e1,F,q,r,G,H,I,J,K,L,M,z0,z1,z2,z3,z4,z5⟩:=oW j6 aY (show w.heap.size<=w.heap.size+1 by omega);go_wp2;try rw[aM]
  clear aM e0 e1 F q r G H I J K L M;try simp only[Exit.inBlock,Exit.then]
  refine bodyPost_ret ?_ rfl (QG B mM.o.symm d)
  simp[results,Tryz.results12,go_sem, *]
 subst g1;by_cases g4:16384<S
 ·have g5:(16384:Int)<S:=by omega
  have B:=ag (VR (f:=f) (s:=s) (b:=b) mM.o.symm (by rw[<-HN.o];exact g4));obtain⟨w9,d0,d1,d2,d3,d4,d5,aM,d,e0,e1,F,q,r,G,H,I,J,K,L,M,z0,z1,z2,z3,z4,z5⟩:=oW j6 aY (show w.heap.size<=w.heap.size+1 by omega);go_wp2;try rw[aM]
  clear aM e0 e1 F q r G H I J K L M;try simp only[Exit.inBlock,Exit.then]
  refine bodyPost_ret ?_ rfl (zR B d)
  simp[results,Tryz.results12,go_sem, *]
 have g5:decide ((16384:Int)<S)=false:=aC (by omega);have g6:decide (16384<S)=false:=Xd7 g4;have j:=qtc ab S cb b w2 (fu.o.a aY.o) HN.o (by have:=HN.o;omega);have zO:=ag (show b.length<=16384 by have:=HN.o;omega);go_wp2_with fail
 refine j.mono ?_
 rintro e w3⟨v3,rfl,aa,N⟩;have yo:=ag (jZ.o.a N);have qb:=ag (j6.o.a N);have df:=ag (aY.o.trans (N.mono aY.o.size));clear j N g4 g5 g6;obtain⟨m,hm⟩:=ak (dX b.length);obtain⟨al,cl,q⟩:=aa.form;rw[Gb,<-hm]at q;subst q;have HM:=ag hm;have aE:m<=128:=by rw[hm];exact qve zO.o
 have kv:=ag (show w.heap.size+2<=w2.heap.size by have:=j6.o.lt;omega);have IP:=ag aa;obtain⟨k0,k1,k2,k3,k4,k5⟩:=bq yo.o;have j:=qact x f s (m:Int) w3 (HX.o.a df.o) HW.o;rw[hm,<-qta f s b,<-hm]at j;clear aa hm;go_wp2_with fail
 refine j.mono ?_
 rintro e w4⟨v4,rfl,fC,t⟩;have tO:=ag (yo.o.a t);have yx:=ag (qb.o.a t);have IQ:=ag (IP.o.a t);have gY:=ag (df.o.trans (t.mono df.o.size));obtain⟨y4,r, -,V3⟩:=fC.bx;subst r;clear j t k0 k1 k2 k3 k4 k5 fC;obtain⟨C,hC⟩:=ak ((fe f s b 0).2);rw[<-hC];have HC:=ag hC;clear hC;have a:=(V3.mono df.o.size).assign (dW.of tO.o) (w0:=w) gY.o aL;obtain⟨⟨d0,e0⟩,⟨d1,e1⟩,⟨d2,F⟩,⟨d3,q⟩,⟨d4,r⟩,⟨d5,G⟩,g⟩:=(dW.of tO.o).cells;have H:=g 0;have I:=g 1;have J:=g 2;have K:=g 3;have L:=g 4;have M:=g 5;obtain⟨w5,xx⟩:=au (bQ w4 w.heap.size y4);rw[xx]at a;have d:=ag a;have IR:=ag (yx.o.oth a.2.2.2.2 (by omega));have IU:=ag (IQ.o.grown a.2.2.2.2 (by have:=kv.o;omega));unfold bQ at xx;have am:=ag xx;clear g a V3 xx;unfold aU.val;go_wp2;rw[am.o];clear e0 e1 F q r G H I J K L M am;go_loopw [11,10] (fun i e wr=>∃(k:Nat) (O:aU),k<=m∧i=.int .i64 k∧e=.int .i64 (fe f s b k).2∧af (bB wr w.heap.size O)∧af (bH wr w.heap.size O.val (fe f s b k).1)∧af (dW wr (w.heap.size+1))∧af (iN wr w2.heap.size (.slice al m cl) (di b))∧af (ah w wr)) (fun i _ _=>m-(intOf i).toNat)
 case atStart=>exact⟨0,y4,Xd5 _,rfl,by rw[HC.o],ag d.o.2.2.1,ag d.o.1,IR,IU,ag d.o.2.1⟩
 obtain⟨k,O,hk,rfl,rfl,hF,hP,HG,HL,HB⟩:=hrel;obtain⟨E,hE⟩:=ak ((fe f s b k).2);have B:=ag hE;rw[<-hE];clear hE d IR IU tO yx IQ gY yo qb IP df;by_cases P:k<m∧E=0
 ·obtain⟨ac,av⟩:=P
  subst av;have aD:(k:Int)<m:=by omega
  have an:k<(di b).length:=by rw[Gb,<-HM.o];exact ac
  obtain⟨⟨F9,E9⟩,h9⟩:∃D:aR×Int,D=fe f s b (k+1):=⟨_,rfl⟩;have mI:=ag h9;have ad:=qtb B.o.symm an;rw[<-h9]at ad;obtain⟨T,U,u,z,e9,ao,ap⟩:=(iN.rdL HL.o).at k an;subst e9;have MQ:=ag (show gQ wr T (U+k) (.slice u ((di b)[k]).length z)from ao);have aw:=ag ap
  have aq:=ag (show ∀c:World,lu wr c->Calls Tryz.prog 45 #[O.val,.string (bs s),.int .i64 (k:Int),.slice u ((di b)[k]).length z] c fun e w'=>∃v,e=.returned (.tuple #[v,.int .i64 E9])∧bH w' c.heap.size v F9∧ah c w' by
   intro c hx;have hh:=Mj O (fe f s b k).1 s (k:Int) u ((di b)[k]).length z (di b)[k] c ((qvg hP.o).a hx) (VZ HW.o B.o.symm) (aw.o.a hx);rw[<-ad]at hh;exact hh)
  have a2:wrap64 ((k:Int)+1)=((k+1:Nat):Int):=by unfold wrap64;omega
  have hs1:=hF.o;clear ao ap h9 ad hP B;go_wp2;have hK:aN (fun c=>bB c w.heap.size O∧lu wr c):=fun _ _ h hb=>⟨h.1.a hb,h.2.a hb⟩
  refine sK hK 11 (by kernel_rfl) ⟨hF.o,lu.refl wr⟩ ?_
  intro l;clear hs1 hF;generalize wr.drew=wd at *;refine lT 0 ?qpv0 rfl ?qpy0 l ?qpr0
  case qpy0=>(rintro c⟨n,p⟩;obtain⟨V,W,X,Y,Z,j5⟩:=bq n;(have r1:c.cell? ⟨T,U+k,none⟩=some (.slice u ((di b)[k]).length z):=gQ.a MQ.o p);go_simp<;>rfl)
  try simp only[aB]
  refine lT 1 ?qpv1 rfl ?qpy1 l ?qpr1
  case qpy1=>(rintro c⟨n,p⟩;obtain⟨V,W,X,Y,Z,j5⟩:=bq n;(have r1:c.cell? ⟨T,U+k,none⟩=some (.slice u ((di b)[k]).length z):=gQ.a MQ.o p);go_simp<;>rfl)
  try simp only[aB]
  refine lT 2 ?qpv2 rfl ?qpy2 l ?qpr2
  case qpy2=>(rintro c⟨n,p⟩;obtain⟨V,W,X,Y,Z,j5⟩:=bq n;(have r1:c.cell? ⟨T,U+k,none⟩=some (.slice u ((di b)[k]).length z):=gQ.a MQ.o p);go_simp<;>rfl)
  try simp only[aB]
  refine lT 3 ?qpv3 rfl ?qpy3 l ?qpr3
  case qpy3=>(rintro c⟨n,p⟩;obtain⟨V,W,X,Y,Z,j5⟩:=bq n;(have r1:c.cell? ⟨T,U+k,none⟩=some (.slice u ((di b)[k]).length z):=gQ.a MQ.o p);go_simp<;>rfl)
  try simp only[aB]
  refine lT 4 ?qpv4 rfl ?qpy4 l ?qpr4
  case qpy4=>(rintro c⟨n,p⟩;obtain⟨V,W,X,Y,Z,j5⟩:=bq n;(have r1:c.cell? ⟨T,U+k,none⟩=some (.slice u ((di b)[k]).length z):=gQ.a MQ.o p);go_simp<;>rfl)
  try simp only[aB]
  refine lT 5 ?qpv5 rfl ?qpy5 l ?qpr5
  case qpy5=>(rintro c⟨n,p⟩;obtain⟨V,W,X,Y,Z,j5⟩:=bq n;(have r1:c.cell? ⟨T,U+k,none⟩=some (.slice u ((di b)[k]).length z):=gQ.a MQ.o p);go_simp<;>rfl)
  try simp only[aB]
  refine lT 6 ?qpv6 rfl ?qpy6 l ?qpr6
  case qpy6=>(rintro c⟨n,p⟩;obtain⟨V,W,X,Y,Z,j5⟩:=bq n;(have r1:c.cell? ⟨T,U+k,none⟩=some (.slice u ((di b)[k]).length z):=gQ.a MQ.o p);go_simp<;>rfl)
  try simp only[aB]
  refine qlk hK (i:=7) (R:=fun v wy=>∃y:aU,v=.tuple #[y.val,.int .i64 E9]∧bH wy w.heap.size y.val F9) rfl (by kernel_rfl) (by rfl) (by go_simp) l ((aq.o wd (l.2)).mono fun e wy ⟨v,h1,h2,h3⟩=>by obtain⟨y,ey,_,h4⟩:=h2.bx;subst ey;exact⟨_,h1,⟨y,rfl,h4.mono (aG HB.o.size (lu.size l.2))⟩,h3⟩) (fun v _ _ ⟨y,h,h'⟩ hb=>⟨y,h,h'.a hb⟩) ?_
  intro aH ax ar nG gU;clear hK l;have hK:=ar;have l:=gU;clear ar gU;obtain⟨y9,rfl,bK⟩:=nG;try simp only[aB]
  refine lT 8 ?qpv8 rfl ?qpy8 l ?qpr8
  case qpy8=>(rintro c⟨⟨n,p⟩,_⟩;go_simp<;>rfl)
  try simp only[aB]
  refine lT 9 ?qpv9 rfl ?qpy9 l ?qpr9
  case qpy9=>(rintro c⟨⟨n,p⟩,_⟩;go_simp<;>rfl)
  try simp only[aB]
  refine uR (i:=10) (v:=?qpv10) rfl (by kernel_rfl) (by kernel_rfl) (by kernel_rfl) rfl (by rfl) ?V4 (fun _=>l) ?qpr10
  case V4=>(intro c;go_simp<;>rfl)
  try simp only[aB]
  obtain⟨⟨s1,s2⟩, -⟩:=l;have a:=bK.assign (dW.of s1) (w0:=w) (HB.o.trans (Below.mono s2 HB.o.size)) aL;obtain⟨⟨d0,e0⟩,⟨d1,e1⟩,⟨d2,F⟩,⟨d3,q⟩,⟨d4,r⟩,⟨d5,G⟩,g⟩:=(dW.of s1).cells;have H:=g 0;have I:=g 1;have J:=g 2;have K:=g 3;have L:=g 4;have M:=g 5;obtain⟨ws,Q⟩:=au (bQ ax w.heap.size y9);rw[Q]at a;have d:=ag a;have UE:=ag ((HG.o.a s2).oth a.2.2.2.2 (by omega));have ay:=ag ((HL.o.a s2).grown a.2.2.2.2 (by have:=kv.o;omega));unfold bQ at Q;clear g s1 s2 a bK;refine lL 11 ws rfl (by rw[<-Q];go_simp) ?_
  clear Q e0 e1 F q r G H I J K L M;try simp only[aB]
  refine uR (i:=12) (v:=?qpv12) rfl (by kernel_rfl) (by kernel_rfl) (by kernel_rfl) rfl (by rfl) ?V5 (fun h=>absurd h (by decide)) ?qpr12
  case V5=>(intro c;go_simp<;>rfl)
  try simp only[aB]
  refine lD ?_
  try simp only[aB]
  clear hK;go_wp2;go_roundw
  case rel=>exact⟨k+1,y9,by omega,by go_num,by rw[<-mI.o],ag d.o.2.2.1,ag (by rw[<-mI.o];exact d.o.1),UE,ay,ag d.o.2.1⟩
  simp only[intOf];omega
 obtain⟨V,W,X,Y,Z,j5⟩:=bq hF.o
 obtain⟨⟨d0,e0⟩,⟨d1,e1⟩,⟨d2,F⟩,⟨d3,q⟩,⟨d4,r⟩,⟨d5,G⟩,g⟩:=HG.o.cells;have H:=g 0;have I:=g 1;have J:=g 2;have K:=g 3;have L:=g 4;have M:=g 5;have a:=hP.o.assign HG.o (w0:=w) HB.o (by omega);obtain⟨ws,Q⟩:=au (bQ wr (w.heap.size+1) O);rw[Q]at a;have mF:=ag a;unfold bQ at Q;have CX:=ag Q;have kE:=ag (show mE f s b=fe f s b k by
  refine kZ mM.o.symm zO.o (by rw[<-HM.o];exact hk) ?_
  by_cases h0:E=0
  ·have:¬k<m:=fun h=>P ⟨h,h0⟩
   exact .inl (by rw[<-HM.o];omega)
  exact .inr (by rw[<-B.o];exact h0))
 have ai:(¬k<m∧decide ((k:Int)<m)=false)∨(k<m∧(k:Int)<m∧(E==0)=false):=by
  by_cases h1:k<m
  ·exact .inr ⟨h1,by omega,by simpa using fun h=>P ⟨h1,h⟩⟩
  exact .inl ⟨h1,Xd7 (by omega)⟩
 clear P a Q hP hF HG g;rcases ai with⟨ac,g1⟩|⟨ac,g1,g2⟩
 all_goals
  go_wp2;rw[CX.o];obtain⟨p0,p1,p2,p3,p4,p5⟩:=bq mF.o.2.2.1;clear CX V W X Y Z j5 H I J K L M e0 e1 F q r G g1;refine bodyPost_ret (v:=.tuple #[O.val,.int .i64 E]) ?_ rfl ⟨O.val, ?_, ?_,mF.o.2.1⟩
  ·simp[results,Tryz.results12,go_sem,p0,p1,p2,p3,p4,p5]
  ·rw[kE.o,<-B.o]
  rw[kE.o];exact mF.o.1
theorem qmm(a:aA)(n c:Nat)(l s r:az)(w:World)(hl:l.length<=1000000)(b:Rd w (.slice a n c) l)(h:ct l=some (s,r)):
  Calls Tryz.prog 105 #[.slice a n c] w fun e w'=>∃a2 c2,e=.returned (.tuple #[.string (bs s),.slice a2 r.length c2,.int .i64 0])∧fB w' w.heap.size (.slice a2 r.length c2) r∧ah w w':=by
 refine(yz w (by omega) b).mono ?_
 rintro e w'⟨v,rfl,hv,g⟩;obtain⟨x,rfl,d⟩:=Qq hv;have e1:mr l=bs s:=by unfold mr;rw[h]
 have i:xP l=0:=by unfold xP;rw[h]
 have j:oP l=r:=by unfold oP;rw[h]
 rw[j]at d;rw[e1,i];have f:fB w' w.heap.size x r:=d;obtain⟨a2,c2,rfl⟩:=f.form;exact⟨a2,c2,rfl,d,g⟩
theorem qmn(a:aA)(n c:Nat)(l:az)(w:World)(hl:l.length<=1000000)(b:Rd w (.slice a n c) l)(h:ct l=none):
  Calls Tryz.prog 105 #[.slice a n c] w fun e w'=>∃a2 n2 c2,e=.returned (.tuple #[.string (bs []),.slice a2 n2 c2,.int .i64 8])∧ah w w':=by
 refine(yz w (by omega) b).mono ?_
 rintro e w'⟨v,rfl,hv,f⟩;obtain⟨x,rfl,g⟩:=Qq hv;have e1:mr l=bs []:=by unfold mr;rw[h];rfl
 have i:xP l=8:=by unfold xP;rw[h]
 rw[e1,i];have d:fB w' w.heap.size x (oP l):=g;obtain⟨a2,c2,rfl⟩:=d.form;exact⟨a2,_,c2,rfl,f⟩
theorem V6{ec:α->List Value}(a:∀x,(ec x).length=sz)(c:0<sz){x:α}{z:Array Value}(d:z.toList=ec x)(N:Nat):(madeCells z (N*sz)).toList=(List.replicate N x).flatMap ec:=by
 have b:z.size=sz:=by rw[<-a x,<-d,Xd2]
 apply List.ext_getElem?;intro k;by_cases f:k<N*sz
 ·have h:k / sz<(List.replicate N x).length:=by rw[Xc1];exact(Nat.div_lt_iff_lt_mul c).2 f
  have hi:k%sz<sz:=Nat.mod_lt _ c;have e:k=k / sz*sz+k%sz:=(Nat.div_add_mod' k sz).symm;have g:=AL a (List.replicate N x) (k / sz) h (k%sz) hi;rw[<-e,List.getElem_replicate]at g;rw[g,<-d];simp[madeCells,f,b,hi]
 rw[List.getElem?_eq_none (by rw[Xd2,size_madeCells];omega),List.getElem?_eq_none (by rw[Ak a,Xc1];omega)]
theorem V7{ec:α->List Value}(d:∀x,(ec x).length=sz)(n:0<sz){ts:TypeId}{z:Value}{m:Nat}(e:P.underlying ts=some (.slice t))(a:(P.info? t).map (fun i=>(i.zero,i.size,i.bytes))=some (some z,sz,m)){x:α}(o:z.cells.toList=ec x)
  (w:World) (N:Nat) (p:m*N<=281474976710656) (f:N<=maxLen):
  ∃c,(Instr.makeSlice ts (.int .i64 N) (.int .i64 N)).run P w=.ok (.slice (some ⟨w.heap.size,0,none⟩) N N) c∧cO sz ec t c w.heap.size (.slice (some ⟨w.heap.size,0,none⟩) N N) (List.replicate N x)∧ah w c:=by
 obtain⟨q,hi,g,h,j⟩:=info_parts a;obtain⟨c,r,b,l⟩:=run_make_full (P:=P) w w.heap.size ts t q z sz e hi g h .i64 .i64 N (by rw[j];exact p) f aL;refine⟨c,r, ?_,aF.grown l aL (fun k s=>by cases s)⟩;unfold cO;rw[Xc1,<-V6 d n o N];exact b
theorem qzg{b:Array Oper}{rest:List Oper}{o:Oper}{a:Act}{Q:Exit->Act->World->Prop}(d:o.guard=none)(x y:Operand)(t:TypeId)
  (g:o.op=.makeSlice t x y) {e f v':Value} (i:a.eval x=e) (j:a.eval y=f) (c:(Instr.makeSlice t e f).run P w=.ok v' w') (h:wpList P b Q rest (a.put o.dst v') w'):wpList P b Q (o::rest) a w:=by
 refine wpList_plain d fun K k=>?_
 unfold Oper.wp execOp;simp only[g,i,j,Sem.run_bind,c,Result.andThen_ok,Sem.run_pure];exact k _ _ h
theorem V8(s t:az):Op.bytesLess (bs s).toList (bs t).toList=mh s t:=by
 rw[ByteArray.toList_eq,ByteArray.toList_eq,zk,zk];rfl
def zP (m:dn):List Value:=[.string (bs m.1),.int .i64 m.2.1,.int .i64 m.2.2.1,.string (bs (gG m)),.string (bs (gH m))]
theorem QO(m:dn):(zP m).length=5:=rfl
theorem V9(m:dn):∀u∈zP m,u.oneCell'=true:=by
 intro u a;simp[zP]at a;rcases a with rfl|rfl|rfl|rfl|rfl<;>rfl
abbrev pg:=oZ 5 zP
abbrev zQ:=cO 5 zP 124
theorem Tryz.infoMt:(Tryz.prog.info? 124).map (fun i=>(i.zero,i.size,i.bytes))=some (some (.agg #[.string ByteArray.empty,.int .i64 0,.int .i64 0,.string ByteArray.empty,.string ByteArray.empty]),5,64):=by kernel_rfl
def dC (w:World) (b o:Nat) (m:dn):Prop:=w.cell? ⟨b,o,none⟩=some (.string (bs m.1))∧w.cell? ⟨b,o+1,none⟩=some (.int .i64 m.2.1)∧w.cell? ⟨b,o+2,none⟩=some (.int .i64 m.2.2.1)∧w.cell? ⟨b,o+3,none⟩=some (.string (bs (gG m)))∧w.cell? ⟨b,o+4,none⟩=some (.string (bs (gH m)))
theorem dC.a{b o:Nat}(h:dC w b o m)(hb:ah w w'):dC w' b o m:=by
 have a:∀{i:Nat} {v:Value},w.cell? ⟨b,i,none⟩=some v->w'.cell? ⟨b,i,none⟩=some v:=fun {i v} k=>by rw[hb.cell (Xa6 w _ k)];exact k
 exact⟨a h.1,a h.2.1,a h.2.2.1,a h.2.2.2.1,a h.2.2.2.2⟩
theorem pg.cells{a:aA}{l:List dn}(h:pg w (.slice a n c) l)(hb:ah w w')(j:Nat)(g:j<l.length):
  ∃b d,a=some ⟨b,d,none⟩∧dC w' b (d+j*5) l[j]:=by
 obtain⟨b,d,e,f⟩:=h.atB hb j g;exact⟨b,d,e,f 0 _ rfl,f 1 _ rfl,f 2 _ rfl,f 3 _ rfl,f 4 _ rfl⟩
def MR (m:dn):Value:=.agg #[.string (bs m.1),.int .i64 m.2.1,.int .i64 m.2.2.1,.string (bs (gG m)),.string (bs (gH m))]
def fT (w:World) (A:Nat) (m:dn):Prop:=w.heap[A]? =some (.cells #[.string (bs m.1),.int .i64 m.2.1,.int .i64 m.2.2.1,.string (bs (gG m)),.string (bs (gH m))] 124 (0,0))
theorem fT.a(h:fT w A m)(hb:ah w w'):fT w' A m:=(hb.block _ (Xd6.1 h).1).trans h
theorem fT.new(w:World)(m:dn):fT (w.alloc (.cells #[.string (bs m.1),.int .i64 m.2.1,.int .i64 m.2.2.1,.string (bs (gG m)),.string (bs (gH m))] 124)) w.heap.size m:=heap_alloc_new w _
theorem fT.cells(h:fT w A m):w.cell? ⟨A,0,none⟩=some (.string (bs m.1))∧w.cell? ⟨A,1,none⟩=some (.int .i64 m.2.1)∧w.cell? ⟨A,2,none⟩=some (.int .i64 m.2.2.1)∧w.cell? ⟨A,3,none⟩=some (.string (bs (gG m)))∧w.cell? ⟨A,4,none⟩=some (.string (bs (gH m))):=
 ⟨by rw[cell_of_row w _ 0 _ _ (0,0) h];rfl,by rw[cell_of_row w _ 1 _ _ (0,0) h];rfl,by rw[cell_of_row w _ 2 _ _ (0,0) h];rfl,by rw[cell_of_row w _ 3 _ _ (0,0) h];rfl,by rw[cell_of_row w _ 4 _ _ (0,0) h];rfl⟩
abbrev dL:=List (Value×List dn)
def yB (p:Value×List dn):List Value:=[p.1]
theorem Wd(p:Value×List dn):(yB p).length=1:=rfl
abbrev aT (R:dL):List (List dn):=R.map (·.2)
theorem yC{R:dL}(h:k<R.length)(a:k<(aT R).length):(aT R)[k]=(R[k]).2:=by simp[aT]
theorem jM(R:dL):(aT R).length=R.length:=Xd1 _
def gM (w:World) (v:Value) (R:dL):Prop:=oZ 1 yB w v R∧∀p∈R,pg w p.1 p.2
theorem gM.len{a:aA}{R:dL}(h:gM w (.slice a n c) R):n=R.length:=oZ.len h.1
theorem gM.a{R:dL}(h:gM w v R)(hb:ah w w'):gM w' v R:=⟨oZ.a h.1 hb,fun p a=>(h.2 p a).a hb⟩
theorem gM.cells{a:aA}{R:dL}(h:gM w (.slice a n c) R)(hb:ah w w')(k:Nat)(j:k<R.length):
  ∃b d f nx g,a=some ⟨b,d,none⟩∧w'.cell? ⟨b,d+k,none⟩=some (.slice f nx g)∧pg w (.slice f nx g) (R[k]).2∧nx=(R[k]).2.length:=by
 obtain⟨b,d,rfl,m⟩:=oZ.atB h.1 hb k j;have l:=m 0 (R[k]).1 rfl;have i:=h.2 _ (Xa3 j);obtain⟨f,g,e⟩:=oZ.form i;rw[e]at l i;exact⟨b,d,f,_,g,rfl,by simpa using l,i,rfl⟩
def dM (w:World) (base:Nat) (v:Value) (R:dL):Prop:=cO 1 yB 105 w base v R∧∀p∈R,zQ w base p.1 p.2
theorem dM.a{R:dL}(h:dM w base v R)(hb:ah w w'):dM w' base v R:=⟨cO.a h.1 hb,fun p a=>(h.2 p a).a hb⟩
theorem dM.rd{R:dL}(h:dM w base v R):gM w v R:=⟨cO.rd Wd h.1,fun p a=>cO.rd QO (h.2 p a)⟩
theorem dM.nil(w:World)(base:Nat):dM w base (.slice none 0 0) []:=⟨cO.nil _ _,fun p a=>by cases a⟩
theorem dM.mono{a:Nat}{R:dL}(h:dM w base v R)(hb:a<=base):dM w a v R:=⟨h.1.mono hb,fun p b=>(h.2 p b).mono hb⟩
theorem Tryz.infoW:(Tryz.prog.info? 105).map (fun i=>(i.zero,i.size,i.bytes))=some (some (.slice none 0 0),1,24):=by kernel_rfl
def aQ (w:World) (A:Nat) (v:Value) (nx sq:Int) (lg:az):Prop:=w.heap[A]? =some (.cells #[v,.int .i64 nx,.int .i64 sq,.string (bs lg)] 36 (0,0))
theorem aQ.a(h:aQ w A v nx sq lg)(hb:ah w w'):aQ w' A v nx sq lg:=(hb.block _ (Xd6.1 h).1).trans h
theorem aQ.new(w:World)(v:Value)(nx sq:Int)(lg:az):aQ (w.alloc (.cells #[v,.int .i64 nx,.int .i64 sq,.string (bs lg)] 36)) w.heap.size v nx sq lg:=heap_alloc_new w _
theorem aQ.lt(h:aQ w A v nx sq lg):A<w.heap.size:=(Xd6.1 h).1
theorem aQ.cells(h:aQ w A v nx sq lg):w.cell? ⟨A,0,none⟩=some v∧w.cell? ⟨A,1,none⟩=some (.int .i64 nx)∧w.cell? ⟨A,2,none⟩=some (.int .i64 sq)∧w.cell? ⟨A,3,none⟩=some (.string (bs lg)):=
 ⟨by rw[cell_of_row w _ 0 _ _ (0,0) h];rfl,by rw[cell_of_row w _ 1 _ _ (0,0) h];rfl,by rw[cell_of_row w _ 2 _ _ (0,0) h];rfl,by rw[cell_of_row w _ 3 _ _ (0,0) h];rfl⟩
theorem aQ.fz(h:aQ w A v nx sq lg)(i:Nat):w.frozen? ⟨A,i,none⟩=false:=frozen_of_row w A i _ _ h
theorem aQ.keep{a:TypeId}(h:aQ w A v nx sq lg)(b:bF a w w')(c:36≠a):aQ w' A v nx sq lg:=b A _ _ _ c h
theorem aQ.low(h:aQ w A v nx sq lg)(hb:Below base w w')(a:A<base):aQ w' A v nx sq lg:=(hb.block A a).trans h
def CY (w:World) (A:Nat) (a b c d:Value):World:=(((w.setCell ⟨A,0,none⟩ a).setCell ⟨A,1,none⟩ b).setCell ⟨A,2,none⟩ c).setCell ⟨A,3,none⟩ d
theorem aQ.put{v':Value}{nx' sq':Int}{MS:az}(h:aQ w A v nx sq lg):aQ (CY w A v' (.int .i64 nx') (.int .i64 sq') (.string (bs MS))) A v' nx' sq' MS:=by
 have a:=heap_setCell_same w A 0 _ _ v' h;have b:=heap_setCell_same _ A 1 _ _ (.int .i64 nx') a;have c:=heap_setCell_same _ A 2 _ _ (.int .i64 sq') b;have d:=heap_setCell_same _ A 3 _ _ (.string (bs MS)) c;unfold aQ CY;rw[d];simp
theorem aQ.put0(h:aQ w A v nx sq lg)(v':Value):aQ (w.setCell ⟨A,0,none⟩ v') A v' nx sq lg:=by
 have a:=heap_setCell_same w A 0 _ _ v' h;unfold aQ;rw[a];simp
theorem qmp{f:World}(h:Below base w f)(e:base<=A)(a b c d:Value):Below base w (CY f A a b c d):=
 Gd (Gd (Gd (Gd h e _ _) e _ _) e _ _) e _ _
theorem cO.set1v{ec:α->List Value}{B j:Nat}{u:Value}{l:List α}(h:cO sz ec t w base v l)(i:B<base):cO sz ec t (w.setCell ⟨B,j,none⟩ u) base v l:=by
 rcases h.2 with⟨rfl,b⟩|⟨g,cap,a,rfl,c,d,f⟩
 ·exact⟨h.1,.inl ⟨rfl,b⟩⟩
 exact⟨h.1,.inr ⟨g,cap,a,rfl,c,by rw[heap_setCell_other w ⟨B,j,none⟩ g u (fun e:g=B=>by omega)];exact d,f⟩⟩
theorem qot(h:aQ w A v nx sq lg)(c:Value)(nx' sq':Int)(MS:az):bF 36 w (CY w A c (.int .i64 nx') (.int .i64 sq') (.string (bs MS))):=by
 intro k cs t e d b;have a:k≠A:=by
  rintro rfl;rw[h]at b;simp only[Option.some.injEq,Obj.cells.injEq]at b;exact d b.2.1.symm
 unfold CY;rw[heap_setCell_other _ _ k _ a,heap_setCell_other _ _ k _ a,heap_setCell_other _ _ k _ a,heap_setCell_other _ _ k _ a];exact b
theorem CZ{c:Int}(h:af (aQ w A b c d e))(hb:af (ah w0 w))(f:w0.heap.size<=A)(v:Value)(nx sq:Int)(lg:az):
  ∃a:World,((((w.setCell ⟨A,0,none⟩ (v)).setCell ⟨A,1,none⟩ (.int .i64 nx)).setCell ⟨A,2,none⟩ (.int .i64 sq)).setCell ⟨A,3,none⟩ (.string (bs lg)))=a∧af (ah w0 a)∧bF 36 w a∧w.cell? ⟨A,0,none⟩=some (b)∧w.cell? ⟨A,1,none⟩=some (.int .i64 c)∧w.cell? ⟨A,2,none⟩=some (.int .i64 d)∧w.cell? ⟨A,3,none⟩=some (.string (bs e))∧w.frozen? ⟨A,0,none⟩=false∧w.frozen? ⟨A,1,none⟩=false∧w.frozen? ⟨A,2,none⟩=false∧w.frozen? ⟨A,3,none⟩=false∧a.cell? ⟨A,0,none⟩=some (v)∧a.cell? ⟨A,1,none⟩=some (.int .i64 nx)∧a.cell? ⟨A,2,none⟩=some (.int .i64 sq)∧a.cell? ⟨A,3,none⟩=some (.string (bs lg)):=by
 obtain⟨g,i,j,k⟩:=h.o.cells;obtain⟨l,m,n,p⟩:=(aQ.put (v':=v) (nx':=nx) (sq':=sq) (MS:=lg) h.o).cells;exact⟨_,rfl,ag (qmp hb.o f _ _ _ _),qot h.o (v) nx sq lg,g,i,j,k,h.o.fz 0,h.o.fz 1,h.o.fz 2,h.o.fz 3,l,m,n,p⟩
theorem yD{c:Int}(h:af (aQ w A b c d e))(hb:af (ah w0 w))(f:w0.heap.size<=A):
  ∃a:World,((((w.setCell ⟨A,0,none⟩ (.slice none 0 0)).setCell ⟨A,1,none⟩ (.int .i64 0)).setCell ⟨A,2,none⟩ (.int .i64 0)).setCell ⟨A,3,none⟩ (.string {data:=#[]}))=a∧af (ah w0 a)∧bF 36 w a∧w.cell? ⟨A,0,none⟩=some (b)∧w.cell? ⟨A,1,none⟩=some (.int .i64 c)∧w.cell? ⟨A,2,none⟩=some (.int .i64 d)∧w.cell? ⟨A,3,none⟩=some (.string (bs e))∧w.frozen? ⟨A,0,none⟩=false∧w.frozen? ⟨A,1,none⟩=false∧w.frozen? ⟨A,2,none⟩=false∧w.frozen? ⟨A,3,none⟩=false∧a.cell? ⟨A,0,none⟩=some (.slice none 0 0)∧a.cell? ⟨A,1,none⟩=some (.int .i64 0)∧a.cell? ⟨A,2,none⟩=some (.int .i64 0)∧a.cell? ⟨A,3,none⟩=some (.string {data:=#[]}):=by
 obtain⟨g,i,j,k⟩:=h.o.cells;obtain⟨l,m,n,p⟩:=(aQ.put (v':=.slice none 0 0) (nx':=0) (sq':=0) (MS:=[]) h.o).cells;exact⟨_,rfl,ag (qmp hb.o f _ _ _ _),qot h.o (.slice none 0 0) 0 0 [],g,i,j,k,h.o.fz 0,h.o.fz 1,h.o.fz 2,h.o.fz 3,l,m,n,p⟩
theorem dM.keepV{R:dL}(h:dM w base v R)(a:bF 36 w w'):dM w' base v R:=
 ⟨cO.keep h.1 a (by decide),fun p b=>cO.keep (h.2 p b) a (by decide)⟩
def jI (R:dL) (k:Nat):Nat:=((aT R).take k).flatten.length
theorem MU(R:dL):jI R 0=0:=by simp[jI]
theorem Ar(R:dL)(k:Nat)(h:k<R.length):jI R (k+1)=jI R k+(R[k]).2.length:=by
 unfold jI;rw[Xa2 (by rw[jM];exact h),List.flatten_append,Xa0,yC h];simp
theorem qxy(R:dL):jI R R.length=(aT R).flatten.length:=by
 unfold jI;rw[Xa1 (by rw[jM];exact Nat.le_refl _)]
theorem AF(R:dL):∀(k:Nat),jI R k<=(aT R).flatten.length:=by
 intro k;unfold jI;conv=>rhs;rw[<-Xc0 k (aT R),List.flatten_append,Xa0]
 omega
theorem Wj{R:dL}(h:k<R.length):(R[k]).2.length<=(aT R).flatten.length:=by
 have a:=Ar R k h;have b:=AF R (k+1);omega
end Go.Proofs.YtmeaiocohalphaaGreatDoor
