/-
  What the statement FilesApart answers.
-/
import Derived.Test.YtmeaiocohalphaaGreatDoorFiRef8
set_option maxHeartbeats 4000000
set_option maxRecDepth 100000
namespace Go.Proofs.YtmeaiocohalphaaGreatDoor
open Go.RowKit
set_option linter.all false
variable {a b c n sz:Nat}{w:World}{d:Dk}{l:List Int}{f:aR}{fs:List Fl}
theorem qab9(a b:aA)(n c m d:Nat)(l k:List Ex)(w:World)(v:iB w (.slice a n c) l)(B:iB w (.slice b m d) k)(x:n=l.length)(C:m=k.length):
  Calls Tryz.prog 265 #[.slice a n c,.slice b m d] w fun e w'=>e=.returned (.bool (decide (l=k)))∧ah w w':=by
 have y:n<=maxLen:=x▸v.len_le;unfold maxLen at y;have H:=ag v;have I:=ag B;have z:=ag x;have A:=ag C;clear v B x C;by_cases J:n=m
 ·subst J
  go_enter Tryz.func265,Tryz.ntmps265;go_wp2;go_loopw [13] (fun i wr=>∃j:Nat,j<=n∧i=.int .i64 j∧af (l.take j=k.take j)∧ah w wr) (fun i _=>n-(intOf i).toNat)
  case atStart=>exact⟨0,Xd5 _,rfl,ag (by simp),aF⟩
  obtain⟨j,P,rfl,D,f⟩:=hrel;by_cases K:j<n
  ·have E:(j:Int)<n:=by omega
   have r:j<l.length:=by have:=z.o;omega
   have s:j<k.length:=by have:=A.o;omega
   obtain⟨Q,F,rfl,L,M⟩:=(H.o.a f).at j r;obtain⟨R,S,rfl,T,U⟩:=(I.o.a f).at j s;have N:wrap64 ((j:Int)+1)=(j:Int)+1:=by unfold wrap64;omega
   by_cases q:l[j]=k[j]
   ·have g:=ag (show l.take (j+1)=k.take (j+1)by rw[qw l j r,qw k j s,D.o,q])
    rw[q]at L M;clear q;go_wp2;go_quiet (fail)
    go_wp2;go_roundw
    case rel=>exact⟨j+1,by omega,rfl,g,below_drewN f _⟩
    simp only[intOf];omega
   have g:=ag (show decide (l=k)=false by
    rw[Xd9];rintro rfl;exact q rfl)
   have p:¬((l[j]).1=(k[j]).1∧(l[j]).2=(k[j]).2):=fun h=>q (Prod.ext h.1 h.2)
   clear q;generalize (l[j]).1=z1 at *;generalize (l[j]).2=z2 at *;generalize (k[j]).1=z3 at *;generalize (k[j]).2=z4 at *;by_cases G:z1=z3
   ·subst G
    have t:¬z2=z4:=fun h=>p ⟨rfl,h⟩
    have u:(z2==z4)=false:=Xe2 t;clear p;go_wp2;go_quiet (fail)
    go_wp2;go_ret;exact⟨by rw[g.o];rfl,below_drewN f _⟩
   have u:(z1==z3)=false:=Xe2 G;clear p;go_wp2;go_quiet (fail)
   go_wp2;go_ret;exact⟨by rw[g.o];rfl,below_drewN f _⟩
  have V:decide ((j:Int)<n)=false:=aC (by omega);have g:=ag (show decide (l=k)=true by
   rw[decide_eq_true_iff];have:=D.o
   rwa [Xa1 (by have:=z.o;omega),Xa1 (by have:=A.o;omega)]at this)
  go_wp2;go_ret;exact⟨by rw[g.o];rfl,f⟩
 have g:=ag (show decide (l=k)=false by
  rw[Xd9];rintro rfl;have:=z.o
  have:=A.o
  omega)
 have O:((n:Int)==(m:Int))=false:=by simpa using(by omega:¬(n:Int)=m)
 go_enter Tryz.func265,Tryz.ntmps265;go_wp2;go_ret;exact⟨by rw[g.o];rfl,aF⟩
theorem qst(s t:az)(a1:aA)(n1 c1:Nat)(a2:aA)(n2 c2:Nat)(l k:List Ex)(w:World)(m:iB w (.slice a1 n1 c1) l)(d:n1=l.length)(n:iB w (.slice a2 n2 c2) k)(f:n2=k.length):
  Calls Tryz.prog 231 #[.agg #[.string (bs s),.slice a1 n1 c1],.agg #[.string (bs t),.slice a2 n2 c2]] w fun e w'=>e=.returned (.bool (decide ((s,l)=(t,k))))∧ah w w':=by
 obtain⟨p,a⟩:=ak ((w.alloc (.cells #[.string (bs s),.slice a1 n1 c1] 98)).alloc (.cells #[.string (bs t),.slice a2 n2 c2] 98));have b:ah w p:=by rw[a];exact(ae).alloc (by simp) _
 have c:=qab9 a1 a2 n1 c1 n2 c2 l k p (m.a b) (n.a b) d f;have g:=ag b;clear m d n f b;by_cases e:s=t
 ·have u:((bs s).toList==(bs t).toList)=true:=by rw[zq,e];simp
  have i:=ag (show decide ((s,l)=(t,k))=decide (l=k)by simp[e]);clear e;go_enter Tryz.func231,Tryz.ntmps231;go_wp2_with fail
  rw[<-a];refine c.mono ?_
  rintro e v⟨rfl,h⟩;have j:=bT g h;clear c h a;obtain⟨r,q⟩:=ak (decide (l=k));rw[<-q]at i⊢;clear q;go_wp2;go_ret;exact⟨by rw[i.o];rfl,j.o⟩
 have u:((bs s).toList==(bs t).toList)=false:=by rw[zq];simpa using e
 have i:=ag (show decide ((s,l)=(t,k))=false by simp[e]);clear e c;go_enter Tryz.func231,Tryz.ntmps231;go_wp2;go_ret;exact⟨by rw[i.o];rfl,by rw[<-a];exact g.o⟩
theorem qqg(a:aA)(n c:Nat)(fs:List Fl)(W:aA)(m X:Nat)(p:List Fl)(w:World)(J:fQ w (.slice a n c) fs)(K:n=fs.length)(Y:fQ w (.slice W m X) p)(Z:m=p.length):
  Calls Tryz.prog 230 #[.slice a n c,.slice W m X,.func (.func 231) #[] #[]] w fun e w'=>e=.returned (.bool (decide (fs=p)))∧ah w w':=by
 have L:n<=maxLen:=K▸J.len_le;unfold maxLen at L;have H1:=ag J;have H2:=ag Y;have M:=ag K;have N:=ag Z;clear J Y K Z;by_cases g1:n=m
 ·subst g1
  go_enter Tryz.func230,Tryz.ntmps230;go_wp2;go_loopw [17] (fun i wr=>∃k:Nat,k<=n∧i=.int .i64 k∧af (fs.take k=p.take k)∧ah w wr) (fun i _=>n-(intOf i).toNat)
  case atStart=>exact⟨0,Xd5 _,rfl,ag rfl,aF⟩
  obtain⟨k,hk,rfl,q,d⟩:=hrel;by_cases ab:k<n
  ·have aa:(k:Int)<n:=by omega
   have z:k<fs.length:=by have:=M.o;omega
   have A:k<p.length:=by have:=N.o;omega
   have ac:wrap64 ((k:Int)+1)=(k:Int)+1:=by unfold wrap64;omega
   have HT:=ag (qF fs k z);have HU:=ag (qF p k A);obtain⟨b,ad,a2,c2,rfl,q0,O,B⟩:=H1.o.atB d k z;obtain⟨b',u,a3,c3,rfl,P,H,C⟩:=H2.o.atB d k A;have Q:=ag (show fs[k]≠p[k]->decide (fs=p)=false by
    intro h;simp only[Xd9];rintro rfl;exact h rfl)
   obtain⟨f,hf⟩:=ak (fs[k]);obtain⟨g,hg⟩:=ak (p[k]);rw[<-hf]at q0 O B HT Q;rw[<-hg]at P H C HU Q;clear hf hg;obtain⟨s,l⟩:=f;obtain⟨t,I⟩:=g;simp only at q0 O B P H C
   obtain⟨D,v⟩:=ak l.length;obtain⟨R,x⟩:=ak I.length;rw[<-v]at O B;rw[<-x]at H C;obtain⟨E,j⟩:=ak ((wr.alloc (.cells #[.string (bs s),.slice a2 D c2] 98)).alloc (.cells #[.string (bs t),.slice a3 R c3] 98));have F:ah wr E:=by rw[j];exact(ae).alloc (by simp) _
   have G:ah w E:=d.trans (F.mono d.size);have S:=qst s t a2 D c2 a3 R c3 l I E (B.a G) v (C.a G) x;obtain⟨r,T⟩:=ak (decide ((s,l)=(t,I)));rw[<-T]at S;have HR:=ag T;have U:∀o,(wr.alloc o).cell? ⟨b',u+k*2,none⟩=some (.string (bs t)):=fun o=>Lib.cell?_alloc_some _ P
   have V:∀o,(wr.alloc o).cell? ⟨b',u+k*2+1,none⟩=some (.slice a3 R c3):=fun o=>Lib.cell?_alloc_some _ H
   have x0:E.cell? ⟨wr.heap.size,0,none⟩=some (.string (bs s)):=by
    rw[j];exact Lib.cell?_alloc_some _ (aP.new wr (bs s) (.slice a2 D c2)).cell0
   have x1:E.cell? ⟨wr.heap.size,1,none⟩=some (.slice a2 D c2):=by
    rw[j];exact Lib.cell?_alloc_some _ (aP.new wr (bs s) (.slice a2 D c2)).cell1
   rw[j]at x0 x1;clear T v x B C F;go_wp2_with fail
   rw[<-j];refine S.mono ?_
   rintro e w3⟨rfl,b3⟩;have dH:ah w w3:=G.trans (b3.mono G.size);clear S j x0 x1 U V b3 G d;cases r with
   |true=>
    have e:(s,l)=(t,I):=by have:=HR.o;simpa using this.symm
    have y:=ag (show fs.take (k+1)=p.take (k+1)by rw[HT.o,HU.o,q.o,e]);clear e;go_wp2;go_roundw
    case rel=>exact⟨k+1,by omega,rfl,y,dH⟩
    simp only[intOf];omega
   |false=>
    have y:=ag (Q.o (by have:=HR.o;exact of_decide_eq_false this.symm));go_wp2;go_ret;exact⟨by rw[y.o];rfl,dH⟩
  have hd:decide ((k:Int)<n)=false:=aC (by omega);have y:=ag (show decide (fs=p)=true by
   have h:=q.o;rw[Xa1 (by have:=M.o;omega),Xa1 (by have:=N.o;omega)]at h;simpa using h)
  go_wp2;go_ret;exact⟨by rw[y.o];rfl,d⟩
 have y:=ag (show decide (fs=p)=false by
  simp only[Xd9];rintro rfl;exact g1 (M.o.trans N.o.symm))
 have ai:((n:Int)==(m:Int))=false:=by simp;omega
 go_enter Tryz.func230,Tryz.ntmps230;go_wp2;all_goals (go_ret;exact⟨by rw[y.o];rfl,aF⟩)
theorem qaca(a:aA)(n c:Nat)(fs:List Fl)(g:aA)(m h:Nat)(i:List Fl)(w:World)(q:fQ w (.slice a n c) fs)(s:n=fs.length)(t:fQ w (.slice g m h) i)(u:m=i.length):
  Calls Tryz.prog 172 #[.agg #[.slice a n c],.agg #[.slice g m h]] w fun e w'=>e=.returned (.bool (decide (fs=i)))∧ah w w':=by
 obtain⟨l,b⟩:=ak ((w.alloc (.cells #[.slice a n c] 31)).alloc (.cells #[.slice g m h] 31));have j:ah w (w.alloc (.cells #[.slice a n c] 31)):=ae;have d:ah w l:=by rw[b];exact j.alloc (by simp) _
 have v:=(show aX l w.heap.size (.slice a n c)by
  rw[b];exact(aX.new w (.slice a n c)).a (ae)).cell
 have d1:=(show aX l (w.heap.size+1) (.slice g m h)by
  have:=aX.new (w.alloc (.cells #[.slice a n c] 31)) (.slice g m h)
  rw[b];simpa using this).cell
 rw[b]at v d1;have f:=qqg a n c fs g m h i l (q.a d) s (t.a d) u;have k:=ag d;obtain⟨r,p⟩:=ak (decide (fs=i));rw[<-p]at f;have x:=ag p;clear q t s u d j p;go_enter Tryz.func172,Tryz.ntmps172;go_wp2_with fail
 rw[<-b];refine f.mono ?_
 rintro e z⟨rfl,y⟩;clear f b v d1;go_wp2;go_ret;exact⟨by rw[<-x.o];rfl,k.o.trans (y.mono k.o.size)⟩
/-! ### what is turned -/
theorem IE{n1 c1 m:Nat}(f:n1=128*m)(g:34<m)(h:sz<=2048)(i:n1<=c1)(d:b=2+c%2*16)(e:a=b*128):a<=n1∧¬a=c1∧a<=c1∧sz<=n1-a∧sz<=c1-a∧a+sz<=n1∧a<=4096:=by omega
theorem U6(d:a=2+c%2*16)(e:b=a*128):wrap64 ((a:Int)*128)=(b:Int):=by
 unfold wrap64;omega
theorem IG{d:Nat}{l:az}(h:Rd w (.slice (some ⟨b,d,none⟩) n c) l)(a sz:Nat)(i:a+sz<=l.length)(hl:l≠[]):Rd w (.slice (some ⟨b,d+a,none⟩) sz (c-a)) ((l.drop a).take sz):=by
 by_cases j:sz=0
 ·subst j;exact .inl ⟨by simp,.inr ⟨_,_,rfl⟩⟩
 obtain⟨k,f,e,_,_,g⟩:=Fj h a (a+sz) (by omega) i
 cases e;rw[show a+sz-a=sz by omega]at g;exact g
theorem qxc{a:aA}{l:az}(h:Rd w (.slice a n c) l)(hl:l≠[]):∃b d,a=some ⟨b,d,none⟩∧n<=c:=by
 rcases h with⟨rfl,_⟩|⟨b,d,f,e,e1,g,i⟩
 ·exact absurd rfl hl
 cases e;exact⟨b,d,rfl,e1⟩
theorem kN.d1{a:aA}{d1:Nat}{c f:Value}(h:kN w (.agg #[.slice a b d1,c,f]) d):Rd w (.slice a b d1) d.1:=by
 obtain⟨x,y,z,e,g,i,j⟩:=h;have e1:_=x:=congrArg (fun v:Value=>match v with| .agg z=>z[0]!|_=>undef) e;simp at e1
 rw[e1];exact g
theorem kN.d2{b a c:Value}(h:kN w (.agg #[b,a,c]) d):ru w a d.2.1:=by
 obtain⟨x,y,z,e,g,f,i⟩:=h;have e1:_=y:=congrArg (fun v:Value=>match v with| .agg z=>z[1]!|_=>undef) e;simp at e1
 rw[e1];exact f
theorem U7(e:jl f.1=(a,sz,0))(g:a=f.2.1)(h:f.1.2.1.any (fun p=>decide (p.1<34))=false):
  decide (bP f)=(decide (mg (iX f.1 a sz) (bD f.1)=0) && decide (uE (iX f.1 a sz) (bD f.1)=f.2.2.2) && decide (bf f.2.2.1 (bD f.1)=0)):=by
 subst g;have i:∀p∈f.1.2.1,34<=p.1:=by
  intro p j;have:=List.any_eq_false.1 h p j
  simp at this;omega
 rw[Bool.eq_iff_iff];simp only[decide_eq_true_eq,Xe0];unfold bP;rw[e];constructor
 ·rintro⟨_,_,_,b,c,d⟩;exact⟨⟨b,c⟩,d⟩
 rintro⟨⟨b,c⟩,d⟩;exact⟨rfl,rfl,i,b,c,d⟩
theorem za{b:Int}(e:jl f.1=(a,sz,b))(h:b≠0∨a≠f.2.1):decide (bP f)=false:=by
 rw[Xd9];rintro⟨c,d,_⟩;rw[e]at c d;rcases h with h|h
 ·exact h c
 exact h d
theorem qagm(h:f.1.2.1.any (fun p=>decide (p.1<34))=true):decide (bP f)=false:=by
 rw[Xd9];rintro⟨_,_,a,_⟩;obtain⟨p,b,c⟩:=List.any_eq_true.1 h;have:=a p b
 simp at c
 omega
theorem qmb(h:jl d=(a,sz,0)):sz<=2048∧a<4294967296∧d.1.length=128*bD d∧34<bD d∧bD d<=4096∧okD d=true:=by
 obtain⟨b,e,f,g⟩:=qjf h;have:=qnu g f
 have c:=(sM d).1 b;refine⟨?_, ?_,by have:=c.1;unfold bD;omega,e,c.2.2.1,b⟩<;>
 ·unfold mi at this
  split at this
  ·have e1:=congrArg Prod.fst this
   have i:=congrArg Prod.snd this;simp only at e1 i
   have:=rz (blk d.1 (a%2))
   omega
  have e1:=congrArg Prod.fst this;simp only at e1
  omega
theorem qxd(h:jl d=(a,sz,0)):(iX d a sz).length=sz:=by
 obtain⟨b,c,e,f,_⟩:=qmb h;unfold iX;rw[Xa4,Xa9];omega
theorem Ti(x:aU)(f:aR)(w:World)(h:iJ w x f)(hw:jq f):
  Calls Tryz.prog 95 #[x.val] w fun e w'=>e=.returned (.bool (decide (bP f)))∧ah w w':=by
 have HW:=ag hw;clear hw;obtain⟨Z,S⟩:=au (w.alloc (.cells x.cs 33));have J:ah w Z:=by rw[<-S];exact ae
 have fD:=ag (show bB Z w.heap.size x by rw[<-S];exact Bq.new _ _ _);obtain⟨j,l,m,n,q,r⟩:=bq fD.o;have i:=ag h;have bg:=ag J;clear h J;unfold aU.val;unfold aU.cs at S;go_enter Tryz.func95,Tryz.ntmps95;go_wp2_with fail
 refine(qum (d:=f.1) Z (i.o.d.a bg.o)).mono ?_
 rintro e w2⟨rfl,v⟩;have jZ:=ag (fD.o.a v);have T:=bT bg v;clear j l m n q r S v;obtain⟨U,u,er,H⟩:∃U u er,jl f.1=(U,u,er):=⟨_,_,_,rfl⟩;rw[H];have K:=ag H;clear H;obtain⟨j,l,m,n,q,r⟩:=bq jZ.o
 by_cases g1:¬er=0
 ·have M:=ag (za K.o (.inl g1))
  go_wp2;go_ret;rw[M.o];exact⟨rfl,T.o⟩
 rw[Decidable.not_not]at g1;subst g1;by_cases V:¬U=x.g
 ·have M:=ag (za K.o (.inr (by rw[<-i.o.g];exact V)))
  have aj:¬(U:Int)=x.g:=by omega
  clear V;go_wp2;go_ret;rw[M.o];exact⟨rfl,T.o⟩
 rw[Decidable.not_not]at V;subst V;go_wp2_with fail
 refine(ql5 _ _ _ f.1.2.1 w2 (i.o.d.d2.a T.o) i.o.n2).mono ?_
 rintro e w3⟨rfl,y⟩;have yo:=ag (jZ.o.a y);have df:=bT T y;clear j l m n q r y;obtain⟨an,A⟩:=au (f.1.2.1.any (fun p=>decide (p.1<34)));rw[A];have HA:=ag A;clear A;cases an with
 |true=>
  have M:=ag (qagm HA.o);go_wp2;go_ret;rw[M.o];exact⟨rfl,df.o⟩
 |false=>
 have k:=ag (U7 K.o i.o.g HA.o);have Br:=ag (qmb K.o);have N:=ag (qxd K.o);have HM:=ag (SE Br.o.2.2.2.2.2);obtain⟨B,hB⟩:∃B:Int,B=bD f.1:=⟨_,rfl⟩;rw[<-hB]at k HM;have al:=ag hB;clear HA hB
 go_wp2_with fail
 obtain⟨ar,C⟩:=ak (2+x.g%2*16);have D:=qn7 x.g w3 Br.o.2.1;rw[<-C]at D;have II:=ag C;clear C;refine D.mono ?_
 clear D;rintro e aa⟨rfl,pV⟩;subst aa;obtain⟨j,l,m,n,q,r⟩:=bq yo.o;go_wp2_with fail
 refine(R8 x f w3 (i.o.a df.o)).mono ?_
 rintro e w4⟨rfl,E⟩;have tO:=ag (yo.o.a E);have gY:=bT df E;clear j l m n q r E;obtain⟨O,ab,b,hm,ac,ad⟩:=Br.o;obtain⟨b9,o9,ea,P⟩:=qxc (i.o.d.d1) (by intro e;rw[e]at b;simp at b;omega);obtain⟨lo,s⟩:=ak (ar*128);have ai:=U6 II.o s;obtain⟨y1,y2,y3,y4,y5,y6,y7⟩:=IE (i.o.n1.trans b) hm O P II.o s;have F:=IG (by have:=i.o.d.d1.a gY.o;rw[ea]at this;exact this) lo u (by rw[<-i.o.n1];exact y6) (by intro e;rw[e]at b;simp at b;omega);have Q:(f.1.1.drop lo).take u=iX f.1 x.g u:=by unfold iX;rw[s,II.o,Nat.mul_comm]
 rw[Q]at F;have hR:=qab3 _ _ _ (iX f.1 x.g u) (fP f) w4 F N.o.symm (by rw[N.o];omega);rw[HM.o]at hR⊢;clear F Q O ab b hm ac s ad y6 y7 P;obtain⟨j,l,m,n,q,r⟩:=bq tO.o;rw[ea]at j;go_wp2_with fail
 refine hR.mono ?_
 rintro e w5⟨v5,rfl,W,G⟩;have U8:=ag (tO.o.a G);have BA:=bT gY G;clear j l m n q r G hR ai y1 y2 y3 y4 y5;obtain⟨L,H⟩:=ak (uE (iX f.1 x.g u) B);rw[<-H]at W k;obtain⟨X,wW⟩:=ak L.length;obtain⟨u5,z5,e5⟩:∃a c,v5=.slice a X c:=by rw[wW];exact W.form
 subst e5;have zM:=ag W.rd;have CJ:=ag wW;obtain⟨w6,LU⟩:=au (w5.alloc (.cells #[.slice u5 X z5] 31));have t:ah w5 w6:=by rw[<-LU];exact ae
 have IJ:=ag (U8.o.a t);have BB:=bT BA t;have qP:=ag (zM.o.a t);clear W wW H zM;obtain⟨j,l,m,n,q,r⟩:=bq IJ.o;have k9:w6.cell? ⟨w5.heap.size,0,none⟩=some (.slice u5 X z5):=by rw[<-LU];simp
 clear t;by_cases R:¬mg (iX f.1 x.g u) B=0
 ·rw[Xd7 R]at k
  go_wp2;go_ret;rw[k.o];exact⟨rfl,by assumption⟩
 rw[Decidable.not_not]at R;rw[R];rw[Xd8 R]at k;clear R;go_wp2_with fail
 refine(qaca u5 X z5 L x.a5 x.n5 x.c5 f.2.2.2 w6 qP.o CJ.o (i.o.kl.a BB.o) i.o.n5).mono ?_
 rintro e w7⟨rfl,bE⟩;have U9:=ag (IJ.o.a bE);have qD:=bT BB bE;clear j l m n q r k9 bE LU;by_cases Y:¬L=f.2.2.2
 ·rw[Xd7 Y]at k⊢
  go_wp2;go_ret;rw[k.o];exact⟨rfl,qD.o⟩
 rw[Decidable.not_not]at Y;rw[Xd8 Y]at k⊢;clear Y;obtain⟨j,l,m,n,q,r⟩:=bq U9.o;go_wp2_with fail
 refine(TK _ _ _ f.2.2.1 B w7 (i.o.fl.a qD.o) i.o.n4 HW.o.fl).mono ?_
 rintro e w8⟨rfl,cZ⟩;have wZ:=bT qD cZ;clear j l m n q r cZ;by_cases I:bf f.2.2.1 B=0
 ·rw[I]
  rw[Xd8 I]at k;clear I;go_wp2;go_ret;rw[k.o];exact⟨rfl,wZ.o⟩
 rw[Xd7 I]at k
 have HQ:=ag (show(bf f.2.2.1 B==0)=false by simpa using I);clear I;go_wp2;go_ret;rw[k.o];exact⟨congrArg (fun z=>Ending.returned (Value.bool z)) HQ.o,wZ.o⟩
theorem Va(x:aU)(f:aR)(w:World)(h:iJ w x f)(k:jq f):
  Calls Tryz.prog 42 #[x.val] w fun e w'=>e=.returned (.int .i64 (eF f))∧ah w w':=by
 have n:=ag k;clear k;obtain⟨i,g⟩:=au (w.alloc (.cells x.cs 33));have a:ah w i:=by rw[<-g];exact ae
 have p:=ag (show bB i w.heap.size x by rw[<-g];exact Bq.new _ _ _);obtain⟨q,r,s,t,u,v⟩:=bq p.o;have y:=ag h;have l:=ag a;clear h a;unfold aU.val;unfold aU.cs at g;go_enter Tryz.func42,Tryz.ntmps42;go_wp2_with fail
 refine(Ti x f i (y.o.a l.o) n.o).mono ?_
 rintro e z⟨rfl,b⟩;have m:=bT l b;clear q r s t u v g b;rcases Aq f with⟨c,d⟩|⟨c,d⟩
 ·have j:=ag d
  rw[Xd8 c];clear c d;go_wp2;go_ret;rw[j.o];exact⟨rfl,m.o⟩
 have j:=ag d;rw[Xd7 c];clear c d;go_wp2;go_ret;rw[j.o];exact⟨rfl,m.o⟩
theorem Vb(h:gL fs)(s:az):∀x∈fO fs s,jg x:=by
 unfold fO;cases e:fs.find? fun f=>f.1==s with
 |none=>simp
 |some p=>exact fun x a=>h p (List.mem_of_find?_eq_some e) x (by simpa using a)
theorem qsu{s:az}(h:iq fs s=0):og fs s=(s,fO fs s):=by unfold og;rw[if_pos h]
theorem qmc(x:aU)(f:aR)(s:az)(w:World)(h:iJ w x f)(A:jq f):
  Calls Tryz.prog 46 #[x.val,.string (bs s)] w fun e w'=>∃v,e=.returned (.tuple #[v,.int .i64 (iL f s)])∧lZ w' w.heap.size v (aZ f s)∧ah w w':=by
 have B:=ag A;clear A;obtain⟨p,m⟩:=au (w.alloc (.cells x.cs 33));have j:ah w p:=by rw[<-m];exact ae
 have L:=ag (show bB p w.heap.size x by rw[<-m];exact Bq.new _ _ _);obtain⟨M,N,O,P,Q,R⟩:=bq L.o;have C:=ag h;have D:=ag j;clear h j;unfold aU.val;unfold aU.cs at m;go_enter Tryz.func46,Tryz.ntmps46;go_wp2_with fail
 refine(qw3 _ _ _ f.2.2.1 s p (C.o.fl.a D.o) C.o.n4 B.o.fl).mono ?_
 rintro e q⟨S,rfl,d,k⟩;have T:=bT D k;clear M N O P Q R m k;obtain⟨n,g⟩:=ak ((og f.2.2.1 s).2.length);obtain⟨r,t,U⟩:∃a c,S=.slice a n c:=by rw[g];exact d.form
 subst U;have E:=ag d.rd;have F:=ag g;clear d g;obtain⟨V,G⟩:=ak ((og f.2.2.1 s).1);rw[<-G];clear G;obtain⟨u,H⟩:=au (q.alloc (.cells #[.string (bs V),.slice r n t] 98));have i:ah q u:=by rw[<-H];exact ae
 have I:=bT T i;have J:=ag (E.o.a i);have W:u.cell? ⟨q.heap.size,1,none⟩=some (.slice r n t):=by rw[<-H];simp
 clear i E;by_cases b:¬iq f.2.2.1 s=0
 ·have y:=ag (show iL f s=iq f.2.2.1 s by unfold iL;rw[if_pos b])
  have z:=ag (show aZ f s=[]by unfold aZ;rw[if_pos b]);go_wp2;go_ret2;rw[y.o,z.o];exact⟨_,rfl,Xa7 _ _ _ _,by assumption⟩
 rw[Decidable.not_not]at b;have y:=ag (show iL f s=dY (fO f.2.2.1 s)by unfold iL;rw[if_neg (by rw[b];decide)]);have z:=ag (show aZ f s=wS (fO f.2.2.1 s)by unfold aZ;rw[if_neg (by rw[b];decide)]);rw[qsu b]at J F;rw[b];clear b;go_wp2_with fail
 refine(qyv r n t (fO f.2.2.1 s) u J.o F.o (Vb B.o.fl s)).mono ?_
 rintro e Z⟨v4,rfl,K,l⟩;have X:=bT I l;have Y:=ag (K.mono I.o.size);clear l K W;go_wp2;go_ret2;rw[y.o,z.o];exact⟨_,rfl,Y.o,X.o⟩
theorem lZ.rd6{base:Nat}{v:Value}(h:lZ w base v l):Qk w v l:=h.rd
theorem Qk.at6{a:aA}(h:Qk w (.slice a n c) l)(j:Nat)(f:j<l.length):
  ∃b d,a=some ⟨b,d,none⟩∧w.cell? ⟨b,d+j,none⟩=some (.int .i64 (l[j])):=by
 rcases h with⟨rfl,_⟩|⟨b,d,i,e,_,_,g⟩
 ·exact absurd f (by simp)
 cases e;exact⟨b,d,rfl,g j f⟩
theorem qok(x:aU)(f:aR)(s:az)(i:Int)(w:World)(h:iJ w x f)(D:jq f):
  Calls Tryz.prog 103 #[x.val,.string (bs s),.int .i64 i] w fun e w'=>e=.returned (.tuple #[.int .i64 (kU f s i),.int .i64 (jD f s i)])∧ah w w':=by
 have G:=ag D;clear D;obtain⟨y,t⟩:=au (w.alloc (.cells x.cs 33));have n:ah w y:=by rw[<-t];exact ae
 have H:=ag (show bB y w.heap.size x by rw[<-t];exact Bq.new _ _ _);obtain⟨I,J,K,L,M,N⟩:=bq H.o;have O:=ag h;have E:=ag n;clear h n;unfold aU.val;unfold aU.cs at t;go_enter Tryz.func103,Tryz.ntmps103;go_wp2_with fail
 refine(qmc x f s y (O.o.a E.o) G.o).mono ?_
 rintro e V⟨P,rfl,k,p⟩;have u:=bT E p;clear I J K L M N t p;obtain⟨r,l⟩:=ak ((aZ f s).length);obtain⟨W,X,Q⟩:∃a c,P=.slice a r c:=by rw[l];exact k.rd6.form
 subst Q;have R:=ag k.rd6;have z:=ag l;clear k l;by_cases d:¬iL f s=0
 ·have b:=ag (show jD f s i=iL f s by unfold jD;rw[if_pos d])
  have g:=ag (show kU f s i=0 by unfold kU;rw[if_pos (by rw[b.o];exact d)]);go_wp2;go_ret2;rw[b.o,g.o];exact⟨rfl,u.o⟩
 rw[Decidable.not_not]at d;rw[d];by_cases v:i<0
 ·have b:=ag (show jD f s i=2 by unfold jD;rw[if_neg (by rw[d];decide),if_pos (.inl v)])
  have g:=ag (show kU f s i=0 by unfold kU;rw[if_pos (by rw[b.o];decide)]);clear d;go_wp2;go_ret2;rw[b.o,g.o];exact⟨rfl,u.o⟩
 by_cases A:(r:Int)<=i
 ·have b:=ag (show jD f s i=2 by unfold jD;rw[if_neg (by rw[d];decide),if_pos (.inr (by rw[<-z.o];exact A))])
  have g:=ag (show kU f s i=0 by unfold kU;rw[if_pos (by rw[b.o];decide)]);have B:decide (i<0)=false:=by simpa using v
  clear d v;go_wp2;go_ret2;rw[b.o,g.o];exact⟨rfl,u.o⟩
 obtain⟨j,rfl⟩:∃j:Nat,i=j:=⟨i.toNat,by omega⟩
 have S:j<r:=by omega
 have m:j<(aZ f s).length:=by rw[<-z.o];exact S
 have b:=ag (show jD f s j=0 by unfold jD;rw[if_neg (by rw[d];decide),if_neg (by rw[<-z.o];omega)]);have g:=ag (show kU f s j=(aZ f s)[j]by unfold kU;rw[if_neg (by rw[b.o];decide)];simp[List.getD,List.getElem?_eq_getElem m]);obtain⟨Y,Z,rfl,C⟩:=R.o.at6 j m;have B:decide ((j:Int)<0)=false:=by simp
 have T:decide ((r:Int)<=j)=false:=by simpa using A
 have U:(j:Int)<r:=by omega
 obtain⟨q,F⟩:=ak ((aZ f s)[j]);rw[<-F]at C g;clear d v A F m;go_wp2;go_ret2;rw[b.o,g.o];exact⟨rfl,u.o⟩
theorem Vd(x:aU)(f:aR)(s:az)(w:World)(h:iJ w x f)(z:jq f):
  Calls Tryz.prog 13 #[x.val,.string (bs s)] w fun e w'=>e=.returned (.tuple #[.int .i64 (uT f s),.int .i64 (dB f s)])∧ah w w':=by
 have A:=ag z;clear z;obtain⟨n,m⟩:=au (w.alloc (.cells x.cs 33));have j:ah w n:=by rw[<-m];exact ae
 have B:=ag (show bB n w.heap.size x by rw[<-m];exact Bq.new _ _ _);obtain⟨p,q,r,t,u,v⟩:=bq B.o;have C:=ag h;have D:=ag j;clear h j;unfold aU.val;unfold aU.cs at m;go_enter Tryz.func13,Tryz.ntmps13;go_wp2_with fail
 refine(Va x f n (C.o.a D.o) A.o).mono ?_
 rintro e E⟨rfl,d⟩;have F:=ag (B.o.a d);have y:=bT D d;clear p q r t u v m d;obtain⟨p,q,r,t,u,v⟩:=bq F.o;rcases(Aq f).symm with⟨_,b⟩|⟨_,b⟩
 ·rw[b]
  have i:=ag (show dB f s=8∧uT f s=0 by unfold dB uT;rw[if_pos (by rw[b];decide),if_pos (by rw[b];decide)];exact⟨b,rfl⟩);clear b;go_wp2;go_ret2;rw[i.o.1,i.o.2];exact⟨rfl,y.o⟩
 rw[b];have i:=ag (show dB f s=iL f s∧uT f s=(aZ f s).length by unfold dB uT;rw[if_neg (by rw[b];decide),if_neg (by rw[b];decide)];exact⟨rfl,rfl⟩);clear b;go_wp2_with fail
 refine(qmc x f s E (C.o.a y.o) A.o).mono ?_
 rintro e K⟨G,rfl,k,l⟩;have H:=bT y l;clear p q r t u v l;obtain⟨I,g⟩:=ak ((aZ f s).length);obtain⟨L,M,J⟩:∃a c,G=.slice a I c:=by rw[g];exact k.rd6.form
 subst J;rw[<-g]at i;clear k g;go_wp2;go_ret2;rw[i.o.1,i.o.2];exact⟨rfl,H.o⟩
theorem LV(x:aU)(f:aR)(s:az)(i:Int)(w:World)(h:iJ w x f)(C:jq f):
  Calls Tryz.prog 47 #[x.val,.string (bs s),.int .i64 i] w fun e w'=>∃v,e=.returned (.tuple #[v,.int .i64 (mW f s i)])∧bG w' w.heap.size v (mq f s i)∧ah w w':=by
 have D:=ag C;clear C;obtain⟨z,u⟩:=au (w.alloc (.cells x.cs 33));have k:ah w z:=by rw[<-u];exact ae
 have E:=ag (show bB z w.heap.size x by rw[<-u];exact Bq.new _ _ _);obtain⟨l,m,n,p,q,r⟩:=bq E.o;have A:=ag h;have F:=ag k;clear h k;unfold aU.val;unfold aU.cs at u;go_enter Tryz.func47,Tryz.ntmps47;go_wp2_with fail
 refine(Va x f z (A.o.a F.o) D.o).mono ?_
 rintro e I⟨rfl,c⟩;have G:=ag (E.o.a c);have B:=bT F c;clear l m n p q r u c;obtain⟨l,m,n,p,q,r⟩:=bq G.o;rcases(Aq f).symm with⟨_,a⟩|⟨_,a⟩
 ·rw[a]
  have b:=ag (show mW f s i=8∧mq f s i=[]by unfold mW mq;rw[if_pos (by rw[a];decide),if_pos (by rw[a];decide)];exact⟨a,rfl⟩);clear a;go_wp2;go_ret2;rw[b.o.1,b.o.2];exact⟨_,rfl,Xa7 _ _ _ _,B.o⟩
 rw[a];have b:=ag (show mW f s i=(if jD f s i≠0 then jD f s i else(uH f.1 (kU f s i)).2)∧mq f s i=(if jD f s i≠0 then[]else(uH f.1 (kU f s i)).1)by constructor<;>simp[mW,mq,a]);clear a;go_wp2_with fail
 refine(qok x f s i I (A.o.a B.o) D.o).mono ?_
 rintro e J⟨rfl,g⟩;have K:=ag (G.o.a g);have y:=bT B g;clear l m n p q r g;by_cases j:¬jD f s i=0
 ·rw[if_pos j,if_pos j]at b
  go_wp2;go_ret2;rw[b.o.1,b.o.2];exact⟨_,rfl,Xa7 _ _ _ _,y.o⟩
 rw[if_neg j,if_neg j]at b;rw[Decidable.not_not]at j;rw[j];clear j;obtain⟨l,m,n,p,q,r⟩:=bq K.o;go_wp2_with fail
 refine(qafm (d:=f.1) (kU f s i) J (A.o.d.a y.o)).mono ?_
 rintro e N⟨O,rfl,H,t⟩;have L:=bT y t;have M:=ag (H.mono y.o.size);clear l m n p q r t H;go_wp2;go_ret2;rw[b.o.1,b.o.2];exact⟨_,rfl,M.o,L.o⟩
theorem qqh{a b:Int}{l:List Ex}{w:Int}(u:0<=a)(h:lS a b l w=0):∀x∈kg a b l w,jg x:=by
 obtain⟨g,j,r,d,k⟩:=ZZ h;obtain⟨i,v,z⟩:=PU g;obtain⟨A,B,C,D⟩:=ZI g;rcases qk3 (jN a b l) w j (fun x m=>(i.1 x m).2.1)with⟨e,_⟩|⟨p,x,q,c,e,n,o,s,E⟩
 ·rw[e]at d;cases d
 rw[n]at d;cases d;have f:Bj a b (p++[(x.1,c)]):=qm9 (q:=q) (x:=x) (y:=(x.1,c)) (e▸i) rfl o s;rw[k];intro y t;have:=f.1 y t
 unfold jg;omega
end Go.Proofs.YtmeaiocohalphaaGreatDoor
