/-
  What the statement FilesApart answers.
-/
import Derived.Test.YthpammbgcidloaaGreatFiRef7
set_option maxHeartbeats 4000000
set_option maxRecDepth 100000
namespace Go.Proofs.YthpammbgcidloaaGreat
open Go.RowKit
set_option linter.all false
section
variable {P:Program} {md:Region.Mode} {ops:Array Oper} {Q:Exit->Act->World->Prop}
theorem WT {S:World->Prop} {i j:Nat} {fuel:Nat} {listed:Array Bool} {a:Act} {w:World} (c:Region.ready md ops listed=[i,j])
  (d:wpOp P ops (NoPanic Q) i (fun a' w'=>S w'∧wpAnyH P md ops (NoPanic Q) S fuel (listed.setIfInBounds i true) a' w') a w)
  (e:wpOp P ops (NoPanic Q) j (fun a' w'=>S w'∧wpAnyH P md ops (NoPanic Q) S fuel (listed.setIfInBounds j true) a' w') a w):wpAnyH P md ops (NoPanic Q) S (fuel+1) listed a w:=by
 refine wpAnyH_all (rs:=[i,j]) c (by simp) ?_
 intro k b;rcases List.mem_cons.1 b with rfl | b
 ·exact d
 ·obtain rfl:=List.mem_singleton.1 b
  exact e
theorem WU {K:Act->World->Prop} {i:Nat} {dst:Option Tmp} {op:Op} {c:TypeId} {pos:String} {d:Array Edge} {e:Option (Nat × Bool)} {a:Act} {w w':World} {v:Value} (f:ops[i]? =some {dst:=dst,op:=op,type:=c,pos:=pos,after:=d,guard:=e}) (g:Region.wanted {dst:=dst,op:=op,type:=c,pos:=pos,after:=d,guard:=e} (yielded ops a.tmps)=true)
  (b:(execOp a.eval {dst:=dst,op:=op,type:=c,pos:=pos,after:=d,guard:=e}).run P w=.ok (.value v) w') (h:K (a.put dst v) w'):wpOp P ops Q i K a w:=by
 unfold wpOp;simp only [f,g,if_true];refine .inl ?_
 unfold Oper.wp;rw [b];exact h
theorem WV {K:Act->World->Prop} {i:Nat} {dst:Option Tmp} {op:Op} {c:TypeId} {pos:String} {d:Array Edge} {g:Option (Nat × Bool)} {a:Act} {w:World} {f:FuncId} {args:Array Value} {R:Value->World->Prop} (j:ops[i]? =some {dst:=dst,op:=op,type:=c,pos:=pos,after:=d,guard:=g}) (k:Region.wanted {dst:=dst,op:=op,type:=c,pos:=pos,after:=d,guard:=g} (yielded ops a.tmps)=true)
  (b:(execOp a.eval {dst:=dst,op:=op,type:=c,pos:=pos,after:=d,guard:=g}).run P w=.ok (.enter f args) w) (l:Calls P f args w fun e w'=>∃v,e=.returned v∧R v w') (h:∀v w',R v w'->K (a.put dst v) w'):wpOp P ops (NoPanic Q) i K a w:=by
 unfold wpOp;simp only [j,k,if_true];refine .inl ?_
 unfold Oper.wp;rw [b];exact l.mono fun e w' ⟨v,he,hv⟩=>by subst he;exact h v w' hv
end
theorem oK {P:Program} {b:Nat} {ops:Array Oper} {Q:Exit->Act->World->Prop} {a:Act} {w:World} {α:Type} (F:α->Act->Act) (R:α->World->Prop) (h:(Code.region b ops true).wp P (fun e a' w'=>e=.normal∧∃x,a'=F x a∧R x w') a w) (k:∀x w',R x w'->Q .normal (F x a) w'):(Code.region b ops true).wp P Q a w:=
 Code.wp_mono (fun e a' w' ⟨h1,x,h2,h3⟩=>by subst h1 h2;exact k x w' h3) h
theorem GQ (a b:au) (n c m d:Nat) (l k:List Ex) (w:World) (v:RdE w (.slice a n c) l) (B:RdE w (.slice b m d) k) (x:n=l.length) (C:m=k.length):
  Calls Tryz.prog 180 #[.slice a n c,.slice b m d] w fun e w'=>e=.returned (.bool (decide (l=k)))∧ah w w':=by
 have y:n<=maxLen:=x ▸ v.len_le;unfold maxLen at y;have I:=ag v;have J:=ag B;have z:=ag x;have A:=ag C;clear v B x C;by_cases K:n=m
 ·subst K
  go_enter Tryz.func180,Tryz.ntmps180;go_wp2;go_loopw [13] (fun i wr=>∃j:Nat,j<=n∧i=.int .i64 j∧af (l.take j=k.take j)∧ah w wr) (fun i _=>n - (intOf i).toNat)
  case atStart=>exact ⟨0,Nat.zero_le _,rfl,ag (by simp),aB⟩
  case round=>
   obtain ⟨j,Q,rfl,D,f⟩:=hrel;by_cases L:j<n
   ·have E:(j:Int)<n:=by omega
    have r:j<l.length:=by have:=z.o;omega
    have s:j<k.length:=by have:=A.o;omega
    obtain ⟨R,F,rfl,M,N⟩:=(I.o.a f).at j r;obtain ⟨S,G,rfl,T,U⟩:=(J.o.a f).at j s;have O:wrap64 ((j:Int)+1)=(j:Int)+1:=by unfold wrap64;omega
    by_cases q:l[j]=k[j]
    ·have g:=ag (show l.take (j+1)=k.take (j+1) by rw [oO l j r,oO k j s,D.o,q])
     rw [q] at M N;clear q;go_wp2;go_quiet (fail)
     go_wp2;go_roundw
     case rel=>exact ⟨j+1,by omega,rfl,g,below_drewN f _⟩
     case measure=>simp only [intOf];omega
    ·have g:=ag (show decide (l=k)=false by
      rw [decide_eq_false_iff_not];rintro rfl;exact q rfl)
     have p:¬((l[j]).1=(k[j]).1∧(l[j]).2=(k[j]).2):=fun h=>q (Prod.ext h.1 h.2)
     clear q;generalize (l[j]).1=z1 at *;generalize (l[j]).2=z2 at *;generalize (k[j]).1=z3 at *;generalize (k[j]).2=z4 at *;by_cases H:z1=z3
     ·subst H
      have t:¬z2=z4:=fun h=>p ⟨rfl,h⟩
      have u:(z2==z4)=false:=by simpa using t
      clear p;go_wp2;go_quiet (fail)
      go_wp2;go_ret;exact ⟨by rw [g.o];rfl,below_drewN f _⟩
     ·have u:(z1==z3)=false:=by simpa using H
      clear p;go_wp2;go_quiet (fail)
      go_wp2;go_ret;exact ⟨by rw [g.o];rfl,below_drewN f _⟩
   ·have V:decide ((j:Int)<n)=false:=aA (by omega)
    have g:=ag (show decide (l=k)=true by
     rw [decide_eq_true_iff];have:=D.o
     rwa [List.take_of_length_le (by have:=z.o;omega),List.take_of_length_le (by have:=A.o;omega)] at this)
    go_wp2;go_ret;exact ⟨by rw [g.o];rfl,f⟩
 ·have g:=ag (show decide (l=k)=false by
   rw [decide_eq_false_iff_not];rintro rfl;have:=z.o
   have:=A.o
   omega)
  have P:((n:Int)==(m:Int))=false:=by simpa using (by omega:¬(n:Int)=m)
  go_enter Tryz.func180,Tryz.ntmps180;go_wp2;go_ret;exact ⟨by rw [g.o];rfl,aB⟩
theorem qsk (s t:ak) (i:au) (n1 c1:Nat) (a2:au) (n2 c2:Nat) (l k:List Ex) (w:World) (n:RdE w (.slice i n1 c1) l) (d:n1=l.length) (p:RdE w (.slice a2 n2 c2) k) (f:n2=k.length):
  Calls Tryz.prog 143 #[.agg #[.string (bs s),.slice i n1 c1],.agg #[.string (bs t),.slice a2 n2 c2]] w fun e w'=>e=.returned (.bool (decide ((s,l)=(t,k))))∧ah w w':=by
 obtain ⟨q,a⟩:=ai ((w.alloc (.cells #[.string (bs s),.slice i n1 c1] 98)).alloc (.cells #[.string (bs t),.slice a2 n2 c2] 98));have b:ah w q:=by rw [a];exact (ae).alloc (by simp) _
 have c:=GQ i a2 n1 c1 n2 c2 l k q (n.a b) (p.a b) d f;have g:=ag b;clear n d p f b;by_cases e:s=t
 ·have v:((bs s).toList==(bs t).toList)=true:=by rw [zQ,e];simp
  have j:=ag (show decide ((s,l)=(t,k))=decide (l=k) by simp [e]);clear e;go_enter Tryz.func143,Tryz.ntmps143;go_wp2_with fail
  rw [<-a];refine c.mono ?_
  rintro e x ⟨rfl,h⟩;have m:=bT g h;clear c h a;obtain ⟨r,u⟩:=ai (decide (l=k));rw [<-u] at j ⊢;clear u;go_wp2;go_ret;exact ⟨by rw [j.o];rfl,m.o⟩
 ·have v:((bs s).toList==(bs t).toList)=false:=by rw [zQ];simpa using e
  have j:=ag (show decide ((s,l)=(t,k))=false by simp [e]);clear e c;go_enter Tryz.func143,Tryz.ntmps143;go_wp2;go_ret;exact ⟨by rw [j.o];rfl,by rw [<-a];exact g.o⟩
theorem qqf (a:au) (n c:Nat) (fs:List Fl) (a':au) (m W:Nat) (p:List Fl) (w:World) (J:RdF w (.slice a n c) fs) (K:n=fs.length) (X:RdF w (.slice a' m W) p) (Y:m=p.length):
  Calls Tryz.prog 142 #[.slice a n c,.slice a' m W,.func (.func 143) #[] #[]] w fun e w'=>e=.returned (.bool (decide (fs=p)))∧ah w w':=by
 have L:n<=maxLen:=K ▸ J.len_le;unfold maxLen at L;have H1:=ag J;have H2:=ag X;have M:=ag K;have N:=ag Y;clear J X K Y;by_cases Z:n=m
 ·subst Z
  go_enter Tryz.func142,Tryz.ntmps142;go_wp2;go_loopw [17] (fun i wr=>∃k:Nat,k<=n∧i=.int .i64 k∧af (fs.take k=p.take k)∧ah w wr) (fun i _=>n - (intOf i).toNat)
  case atStart=>exact ⟨0,Nat.zero_le _,rfl,ag rfl,aB⟩
  case round=>
   obtain ⟨k,hk,rfl,q,d⟩:=hrel;by_cases ab:k<n
   ·have aa:(k:Int)<n:=by omega
    have z:k<fs.length:=by have:=M.o;omega
    have A:k<p.length:=by have:=N.o;omega
    have ac:wrap64 ((k:Int)+1)=(k:Int)+1:=by unfold wrap64;omega
    have HT:=ag (uE fs k z);have HU:=ag (uE p k A);obtain ⟨b,ad,a2,c2,rfl,q0,O,B⟩:=H1.o.atB d k z;obtain ⟨b',u,a3,c3,rfl,P,H,C⟩:=H2.o.atB d k A;have Q:=ag (show fs[k]≠p[k]->decide (fs=p)=false by
     intro h;simp only [decide_eq_false_iff_not];rintro rfl;exact h rfl)
    obtain ⟨f,hf⟩:=ai (fs[k]);obtain ⟨g,hg⟩:=ai (p[k]);rw [<-hf] at q0 O B HT Q;rw [<-hg] at P H C HU Q;clear hf hg;obtain ⟨s,l⟩:=f;obtain ⟨t,I⟩:=g;simp only at q0 O B P H C
    obtain ⟨D,v⟩:=ai l.length;obtain ⟨R,x⟩:=ai I.length;rw [<-v] at O B;rw [<-x] at H C;obtain ⟨E,j⟩:=ai ((wr.alloc (.cells #[.string (bs s),.slice a2 D c2] 98)).alloc (.cells #[.string (bs t),.slice a3 R c3] 98));have F:ah wr E:=by rw [j];exact (ae).alloc (by simp) _
    have G:ah w E:=d.trans (F.mono d.size);have S:=qsk s t a2 D c2 a3 R c3 l I E (B.a G) v (C.a G) x;obtain ⟨r,T⟩:=ai (decide ((s,l)=(t,I)));rw [<-T] at S;have HR:=ag T;have U:∀o,(wr.alloc o).cell? ⟨b',u+k*2,none⟩=some (.string (bs t)):=fun o=>Lib.cell?_alloc_some _ P
    have V:∀o,(wr.alloc o).cell? ⟨b',u+k*2+1,none⟩=some (.slice a3 R c3):=fun o=>Lib.cell?_alloc_some _ H
    have x0:E.cell? ⟨wr.heap.size,0,none⟩=some (.string (bs s)):=by
     rw [j];exact Lib.cell?_alloc_some _ (aQ.new wr (bs s) (.slice a2 D c2)).cell0
    have x1:E.cell? ⟨wr.heap.size,1,none⟩=some (.slice a2 D c2):=by
     rw [j];exact Lib.cell?_alloc_some _ (aQ.new wr (bs s) (.slice a2 D c2)).cell1
    rw [j] at x0 x1;clear T v x B C F;go_wp2_with fail
    rw [<-j];refine S.mono ?_
    rintro e w3 ⟨rfl,b3⟩;have eQ:ah w w3:=G.trans (b3.mono G.size);clear S j x0 x1 U V b3 G d;cases r with
    | true=>
     have e:(s,l)=(t,I):=by have:=HR.o;simpa using this.symm
     have y:=ag (show fs.take (k+1)=p.take (k+1) by rw [HT.o,HU.o,q.o,e]);clear e;go_wp2;go_roundw
     case rel=>exact ⟨k+1,by omega,rfl,y,eQ⟩
     case measure=>simp only [intOf];omega
    | false=>
     have y:=ag (Q.o (by have:=HR.o;exact of_decide_eq_false this.symm));go_wp2;go_ret;exact ⟨by rw [y.o];rfl,eQ⟩
   ·have hd:decide ((k:Int)<n)=false:=aA (by omega)
    have y:=ag (show decide (fs=p)=true by
     have h:=q.o;rw [List.take_of_length_le (by have:=M.o;omega),List.take_of_length_le (by have:=N.o;omega)] at h;simpa using h)
    go_wp2;go_ret;exact ⟨by rw [y.o];rfl,d⟩
 ·have y:=ag (show decide (fs=p)=false by
   simp only [decide_eq_false_iff_not];rintro rfl;exact Z (M.o.trans N.o.symm))
  have al:((n:Int)==(m:Int))=false:=by simp;omega
  go_enter Tryz.func142,Tryz.ntmps142;go_wp2;all_goals (go_ret;exact ⟨by rw [y.o];rfl,aB⟩)
theorem lN (a:au) (n c:Nat) (fs:List Fl) (a':au) (m g:Nat) (h:List Fl) (w:World) (p:RdF w (.slice a n c) fs) (q:n=fs.length) (s:RdF w (.slice a' m g) h) (t:m=h.length):
  Calls Tryz.prog 96 #[.agg #[.slice a n c],.agg #[.slice a' m g]] w fun e w'=>e=.returned (.bool (decide (fs=h)))∧ah w w':=by
 obtain ⟨k,b⟩:=ai ((w.alloc (.cells #[.slice a n c] 30)).alloc (.cells #[.slice a' m g] 30));have i:ah w (w.alloc (.cells #[.slice a n c] 30)):=ae;have d:ah w k:=by rw [b];exact i.alloc (by simp) _
 have u:=(show bG k w.heap.size (.slice a n c) by
  rw [b];exact (bG.new w (.slice a n c)).a (ae)).cell
 have d1:=(show bG k (w.heap.size+1) (.slice a' m g) by
  have:=bG.new (w.alloc (.cells #[.slice a n c] 30)) (.slice a' m g)
  rw [b];simpa using this).cell
 rw [b] at u d1;have f:=qqf a n c fs a' m g h k (p.a d) q (s.a d) t;have j:=ag d;obtain ⟨r,l⟩:=ai (decide (fs=h));rw [<-l] at f;have v:=ag l;clear p s q t d i l;go_enter Tryz.func96,Tryz.ntmps96;go_wp2_with fail
 rw [<-b];refine f.mono ?_
 rintro e y ⟨rfl,x⟩;clear f b u d1;go_wp2;go_ret;exact ⟨by rw [<-v.o];rfl,j.o.trans (x.mono j.o.size)⟩
/-! ### what is turned -/
theorem EJ {n1 c1 m sz a c b:Nat} (f:n1=128*m) (g:34<m) (h:sz<=2048) (i:n1<=c1) (d:b=2+c % 2*16) (e:a=b*128):a<=n1∧¬a=c1∧a<=c1∧sz<=n1 - a∧sz<=c1 - a∧a+sz<=n1∧a<=4096:=by omega
theorem P9 {b c a:Nat} (d:a=2+c % 2*16) (e:b=a*128):wrap64 ((a:Int)*128)=(b:Int):=by
 unfold wrap64;omega
theorem EK {w:World} {b d n c:Nat} {l:ak} (h:Rd w (.slice (some ⟨b,d,none⟩) n c) l) (a sz:Nat) (i:a+sz<=l.length) (k:l≠[]):Rd w (.slice (some ⟨b,d+a,none⟩) sz (c - a)) ((l.drop a).take sz):=by
 by_cases j:sz=0
 ·subst j;exact .inl ⟨by simp,.inr ⟨_,_,rfl⟩⟩
 ·obtain ⟨m,f,e,_,_,g⟩:=yK h a (a+sz) (by omega) i
  cases e;rw [show a+sz - a=sz by omega] at g;exact g
theorem yY {w:World} {a:au} {n c:Nat} {l:ak} (h:Rd w (.slice a n c) l) (f:l≠[]):∃b d,a=some ⟨b,d,none⟩∧n<=c:=by
 rcases h with ⟨rfl,_⟩ | ⟨b,d,g,e,e1,i,j⟩
 ·exact absurd rfl f
 ·cases e;exact ⟨b,d,rfl,e1⟩
theorem RdD.d1 {w:World} {a:au} {b d1:Nat} {c f:Value} {d:Dk} (h:RdD w (.agg #[.slice a b d1,c,f]) d):Rd w (.slice a b d1) d.1:=by
 obtain ⟨x,y,z,e,g,i,j⟩:=h;have e1:_=x:=congrArg (fun v:Value=>match v with | .agg z=>z[0]! | _=>undef) e;simp at e1
 rw [e1];exact g
theorem RdD.d2 {w:World} {b a c:Value} {d:Dk} (h:RdD w (.agg #[b,a,c]) d):RdW w a d.2.1:=by
 obtain ⟨x,y,z,e,g,f,i⟩:=h;have e1:_=y:=congrArg (fun v:Value=>match v with | .agg z=>z[1]! | _=>undef) e;simp at e1
 rw [e1];exact f
theorem Qa {f:Fsd} {a sz:Nat} (e:iU f.1=(a,sz,0)) (g:a=f.2.1) (h:f.1.2.1.any (fun p=>decide (p.1<34))=false):
  decide (bL f)=(decide (kZ (iG f.1 a sz) (bq f.1)=0) && decide (rT (iG f.1 a sz) (bq f.1)=f.2.2.2) && decide (bA f.2.2.1 (bq f.1)=0)):=by
 subst g;have i:∀p∈f.1.2.1,34<=p.1:=by
  intro p j;have:=List.any_eq_false.1 h p j
  simp at this;omega
 rw [Bool.eq_iff_iff];simp only [decide_eq_true_eq,Bool.and_eq_true];unfold bL;rw [e];constructor
 ·rintro ⟨_,_,_,b,c,d⟩;exact ⟨⟨b,c⟩,d⟩
 ·rintro ⟨⟨b,c⟩,d⟩;exact ⟨rfl,rfl,i,b,c,d⟩
theorem WW {f:Fsd} {a sz:Nat} {b:Int} (e:iU f.1=(a,sz,b)) (h:b≠0∨a≠f.2.1):decide (bL f)=false:=by
 rw [decide_eq_false_iff_not];rintro ⟨c,d,_⟩;rw [e] at c d;rcases h with h | h
 ·exact h c
 ·exact h d
theorem qafz {f:Fsd} (h:f.1.2.1.any (fun p=>decide (p.1<34))=true):decide (bL f)=false:=by
 rw [decide_eq_false_iff_not];rintro ⟨_,_,a,_⟩;obtain ⟨p,b,c⟩:=List.any_eq_true.1 h;have:=a p b
 simp at c
 omega
theorem je {d:Dk} {a sz:Nat} (h:iU d=(a,sz,0)):sz<=2048∧a<4294967296∧d.1.length=128*bq d∧34<bq d∧bq d<=4096∧okD d=true:=by
 obtain ⟨b,e,f,g⟩:=Zr h;have:=qnn g f
 have c:=(qp d).1 b;refine ⟨?_, ?_,by have:=c.1;unfold bq;omega,e,c.2.2.1,b⟩<;>
 ·unfold kX at this
  split at this
  ·have e1:=congrArg Prod.fst this
   have i:=congrArg Prod.snd this;simp only at e1 i
   have:=VC (blk d.1 (a % 2))
   omega
  ·have e1:=congrArg Prod.fst this
   simp only at e1
   omega
theorem qws {d:Dk} {a sz:Nat} (h:iU d=(a,sz,0)):(iG d a sz).length=sz:=by
 obtain ⟨b,c,e,f,_⟩:=je h;unfold iG;rw [List.length_take,List.length_drop];omega
theorem qaf0 (x:FsV) (f:Fsd) (w:World) (h:RdX w x f) (hw:WfX f):
  Calls Tryz.prog 50 #[x.val] w fun e w'=>e=.returned (.bool (decide (bL f)))∧ah w w':=by
 have HW:=ag hw;clear hw;obtain ⟨Y,R⟩:=aj (w.alloc (.cells x.cs 32));have K:ah w Y:=by rw [<-R];exact ae
 have fG:=ag (show bf Y w.heap.size x by rw [<-R];exact Bq.new _ _ _);obtain ⟨j,l,m,n,q,r⟩:=aV fG.o;have i:=ag h;have bi:=ag K;clear h K;unfold FsV.val;unfold FsV.cs at R;go_enter Tryz.func50,Tryz.ntmps50;go_wp2_with fail
 refine (qub (d:=f.1) Y (i.o.d.a bi.o)).mono ?_
 rintro e w2 ⟨rfl,v⟩;have mO:=ag (fG.o.a v);have S:=bT bi v;clear j l m n q r R v;obtain ⟨T,s,Z,I⟩:∃T s Z,iU f.1=(T,s,Z):=⟨_,_,_,rfl⟩;rw [I];have M:=ag I;clear I;obtain ⟨j,l,m,n,q,r⟩:=aV mO.o
 by_cases g1:¬Z=0
 ·have N:=ag (WW M.o (.inl g1))
  go_wp2;go_ret;rw [N.o];exact ⟨rfl,S.o⟩
 rw [Decidable.not_not] at g1;subst g1;by_cases U:¬T=x.g
 ·have N:=ag (WW M.o (.inr (by rw [<-i.o.g];exact U)))
  have ao:¬(T:Int)=x.g:=by omega
  clear U;go_wp2;go_ret;rw [N.o];exact ⟨rfl,S.o⟩
 rw [Decidable.not_not] at U;subst U;go_wp2_with fail
 refine (qmd _ _ _ f.1.2.1 w2 (i.o.d.d2.a S.o) i.o.n2).mono ?_
 rintro e w3 ⟨rfl,y⟩;have vP:=ag (mO.o.a y);have bU:=bT S y;clear j l m n q r y;obtain ⟨an,A⟩:=aj (f.1.2.1.any (fun p=>decide (p.1<34)));rw [A];have HA:=ag A;clear A;cases an with
 | true=>
  have N:=ag (qafz HA.o);go_wp2;go_ret;rw [N.o];exact ⟨rfl,bU.o⟩
 | false=>
 have k:=ag (Qa M.o i.o.g HA.o);have mK:=ag (je M.o);have Mx:=ag (qws M.o);have HM:=ag (Oa mK.o.2.2.2.2.2);obtain ⟨B,hB⟩:∃B:Int,B=bq f.1:=⟨_,rfl⟩;rw [<-hB] at k HM;have ap:=ag hB;clear HA hB
 go_wp2_with fail
 obtain ⟨ar,C⟩:=ai (2+x.g % 2*16);have D:=qog x.g w3 mK.o.2.1;rw [<-C] at D;have EL:=ag C;clear C;refine D.mono ?_
 clear D;rintro e aa ⟨rfl,ow⟩;subst aa;obtain ⟨j,l,m,n,q,r⟩:=aV vP.o;go_wp2_with fail
 refine (vU x f w3 (i.o.a bU.o)).mono ?_
 rintro e w4 ⟨rfl,E⟩;have EO:=ag (vP.o.a E);have jB:=bT bU E;clear j l m n q r E;obtain ⟨F,ab,b,hm,ac,ad⟩:=mK.o;obtain ⟨b9,o9,ea,O⟩:=yY (i.o.d.d1) (by intro e;rw [e] at b;simp at b;omega);obtain ⟨lo,t⟩:=ai (ar*128);have al:=P9 EL.o t;obtain ⟨y1,y2,y3,y4,y5,y6,y7⟩:=EJ (i.o.n1.trans b) hm F O EL.o t;have G:=EK (by have:=i.o.d.d1.a jB.o;rw [ea] at this;exact this) lo s (by rw [<-i.o.n1];exact y6) (by intro e;rw [e] at b;simp at b;omega);have P:(f.1.1.drop lo).take s=iG f.1 x.g s:=by unfold iG;rw [t,EL.o,Nat.mul_comm]
 rw [P] at G;have hR:=nD _ _ _ (iG f.1 x.g s) (fQ f) w4 G Mx.o.symm (by rw [Mx.o];omega);rw [HM.o] at hR ⊢;have jy:=ag (show s<=2048 from F);clear G P F ab b hm ac t ad y6 y7 O;obtain ⟨j,l,m,n,q,r⟩:=aV EO.o;rw [ea] at j;go_wp2_with fail
 refine hR.mono ?_
 rintro e w5 ⟨v5,rfl,V,H⟩;have Qb:=ag (EO.o.a H);have C9:=bT jB H;clear j l m n q r H hR al y1 y2 y3 y4 y5;obtain ⟨L,I⟩:=ai (rT (iG f.1 x.g s) B);rw [<-I] at V k;obtain ⟨W,wT⟩:=ai L.length;obtain ⟨u5,z5,e5⟩:∃a c,v5=.slice a W c:=by rw [wT];exact V.form
 subst e5;have sW:=ag V.rd;have am:=ag wT;obtain ⟨w6,Ai⟩:=aj (w5.alloc (.cells #[.slice u5 W z5] 30));have u:ah w5 w6:=by rw [<-Ai];exact ae
 have EP:=ag (Qb.o.a u);have vS:=bT C9 u;have vD:=ag (sW.o.a u);clear V wT I sW;obtain ⟨j,l,m,n,q,r⟩:=aV EP.o;have k9:w6.cell? ⟨w5.heap.size,0,none⟩=some (.slice u5 W z5):=by rw [<-Ai];simp
 clear u;by_cases Q:¬kZ (iG f.1 x.g s) B=0
 ·rw [decide_eq_false Q] at k
  go_wp2;go_ret;rw [k.o];exact ⟨rfl,by assumption⟩
 rw [Decidable.not_not] at Q;rw [Q];rw [decide_eq_true Q] at k;clear Q;go_wp2_with fail
 refine (lN u5 W z5 L x.a5 x.n5 x.c5 f.2.2.2 w6 vD.o am.o (i.o.kl.a vS.o) i.o.n5).mono ?_
 rintro e w7 ⟨rfl,bH⟩;have Qc:=ag (EP.o.a bH);have Da:=bT vS bH;clear j l m n q r k9 bH Ai;by_cases X:¬L=f.2.2.2
 ·rw [decide_eq_false X] at k ⊢
  go_wp2;go_ret;rw [k.o];exact ⟨rfl,Da.o⟩
 rw [Decidable.not_not] at X;rw [decide_eq_true X] at k ⊢;clear X;obtain ⟨j,l,m,n,q,r⟩:=aV Qc.o;go_wp2_with fail
 refine (Wq _ _ _ f.2.2.1 B w7 (i.o.fl.a Da.o) i.o.n4 HW.o.fl).mono ?_
 rintro e w8 ⟨rfl,dD⟩;have sV:=bT Da dD;clear j l m n q r dD;by_cases J:bA f.2.2.1 B=0
 ·rw [J]
  rw [decide_eq_true J] at k;clear J;go_wp2;go_ret;rw [k.o];exact ⟨rfl,sV.o⟩
 ·rw [decide_eq_false J] at k
  have HQ:=ag (show (bA f.2.2.1 B==0)=false by simpa using J);clear J;go_wp2;go_ret;rw [k.o];exact ⟨congrArg (fun z=>Ending.returned (Value.bool z)) HQ.o,sV.o⟩
theorem WX (x:FsV) (f:Fsd) (w:World) (h:RdX w x f) (k:WfX f):
  Calls Tryz.prog 20 #[x.val] w fun e w'=>e=.returned (.int .i64 (fe f))∧ah w w':=by
 have n:=ag k;clear k;obtain ⟨i,g⟩:=aj (w.alloc (.cells x.cs 32));have a:ah w i:=by rw [<-g];exact ae
 have p:=ag (show bf i w.heap.size x by rw [<-g];exact Bq.new _ _ _);obtain ⟨q,r,s,t,u,v⟩:=aV p.o;have y:=ag h;have l:=ag a;clear h a;unfold FsV.val;unfold FsV.cs at g;go_enter Tryz.func20,Tryz.ntmps20;go_wp2_with fail
 refine (qaf0 x f i (y.o.a l.o) n.o).mono ?_
 rintro e z ⟨rfl,b⟩;have m:=bT l b;clear q r s t u v g b;rcases wP f with ⟨c,d⟩ | ⟨c,d⟩
 ·have j:=ag d
  rw [decide_eq_true c];clear c d;go_wp2;go_ret;rw [j.o];exact ⟨rfl,m.o⟩
 ·have j:=ag d
  rw [decide_eq_false c];clear c d;go_wp2;go_ret;rw [j.o];exact ⟨rfl,m.o⟩
theorem Qd {fs:List Fl} (h:wfFs fs) (s:ak):∀x∈jR fs s,wfX x:=by
 unfold jR;cases e:fs.find? fun f=>f.1==s with
 | none=>simp
 | some p=>exact fun x a=>h p (List.mem_of_find?_eq_some e) x (by simpa using a)
theorem qsl {fs:List Fl} {s:ak} (h:gN fs s=0):nu fs s=(s,jR fs s):=by unfold nu;rw [if_pos h]
theorem qml (x:FsV) (f:Fsd) (s:ak) (w:World) (h:RdX w x f) (A:WfX f):
  Calls Tryz.prog 126 #[x.val,.string (bs s)] w fun e w'=>∃v,e=.returned (.tuple #[v,.int .i64 (il f s)])∧kL w' w.heap.size v (aU f s)∧ah w w':=by
 have B:=ag A;clear A;obtain ⟨p,m⟩:=aj (w.alloc (.cells x.cs 32));have j:ah w p:=by rw [<-m];exact ae
 have L:=ag (show bf p w.heap.size x by rw [<-m];exact Bq.new _ _ _);obtain ⟨M,N,O,P,Q,R⟩:=aV L.o;have C:=ag h;have D:=ag j;clear h j;unfold FsV.val;unfold FsV.cs at m;go_enter Tryz.func126,Tryz.ntmps126;go_wp2_with fail
 refine (qwf _ _ _ f.2.2.1 s p (C.o.fl.a D.o) C.o.n4 B.o.fl).mono ?_
 rintro e q ⟨S,rfl,d,k⟩;have T:=bT D k;clear M N O P Q R m k;obtain ⟨n,g⟩:=ai ((nu f.2.2.1 s).2.length);obtain ⟨r,t,U⟩:∃a c,S=.slice a n c:=by rw [g];exact d.form
 subst U;have E:=ag d.rd;have F:=ag g;clear d g;obtain ⟨V,G⟩:=ai ((nu f.2.2.1 s).1);rw [<-G];clear G;obtain ⟨u,H⟩:=aj (q.alloc (.cells #[.string (bs V),.slice r n t] 98));have i:ah q u:=by rw [<-H];exact ae
 have I:=bT T i;have J:=ag (E.o.a i);have W:u.cell? ⟨q.heap.size,1,none⟩=some (.slice r n t):=by rw [<-H];simp
 clear i E;by_cases b:¬gN f.2.2.1 s=0
 ·have y:=ag (show il f s=gN f.2.2.1 s by unfold il;rw [if_pos b])
  have z:=ag (show aU f s=[] by unfold aU;rw [if_pos b]);go_wp2;go_ret2;rw [y.o,z.o];exact ⟨_,rfl,World.ownsRow_nil _ _ _ _,by assumption⟩
 rw [Decidable.not_not] at b;have y:=ag (show il f s=dY (jR f.2.2.1 s) by unfold il;rw [if_neg (by rw [b];decide)]);have z:=ag (show aU f s=uD (jR f.2.2.1 s) by unfold aU;rw [if_neg (by rw [b];decide)]);rw [qsl b] at J F;rw [b];clear b;go_wp2_with fail
 refine (qx2 r n t (jR f.2.2.1 s) u J.o F.o (Qd B.o.fl s)).mono ?_
 rintro e Z ⟨v4,rfl,K,l⟩;have X:=bT I l;have Y:=ag (K.mono I.o.size);clear l K W;go_wp2;go_ret2;rw [y.o,z.o];exact ⟨_,rfl,Y.o,X.o⟩
theorem kL.rd6 {w:World} {base:Nat} {v:Value} {l:List Int} (h:kL w base v l):LP w v l:=h.rd
theorem LP.at6 {w:World} {a:au} {n c:Nat} {l:List Int} (h:LP w (.slice a n c) l) (j:Nat) (f:j<l.length):
  ∃b d,a=some ⟨b,d,none⟩∧w.cell? ⟨b,d+j,none⟩=some (.int .i64 (l[j])):=by
 rcases h with ⟨rfl,_⟩ | ⟨b,d,i,e,_,_,g⟩
 ·exact absurd f (by simp)
 ·cases e;exact ⟨b,d,rfl,g j f⟩
theorem qou (x:FsV) (f:Fsd) (s:ak) (i:Int) (w:World) (h:RdX w x f) (D:WfX f):
  Calls Tryz.prog 105 #[x.val,.string (bs s),.int .i64 i] w fun e w'=>e=.returned (.tuple #[.int .i64 (kH f s i),.int .i64 (jl f s i)])∧ah w w':=by
 have G:=ag D;clear D;obtain ⟨y,t⟩:=aj (w.alloc (.cells x.cs 32));have n:ah w y:=by rw [<-t];exact ae
 have H:=ag (show bf y w.heap.size x by rw [<-t];exact Bq.new _ _ _);obtain ⟨I,J,K,L,M,N⟩:=aV H.o;have O:=ag h;have E:=ag n;clear h n;unfold FsV.val;unfold FsV.cs at t;go_enter Tryz.func105,Tryz.ntmps105;go_wp2_with fail
 refine (qml x f s y (O.o.a E.o) G.o).mono ?_
 rintro e V ⟨P,rfl,k,p⟩;have u:=bT E p;clear I J K L M N t p;obtain ⟨r,l⟩:=ai ((aU f s).length);obtain ⟨W,X,Q⟩:∃a c,P=.slice a r c:=by rw [l];exact k.rd6.form
 subst Q;have R:=ag k.rd6;have z:=ag l;clear k l;by_cases d:¬il f s=0
 ·have b:=ag (show jl f s i=il f s by unfold jl;rw [if_pos d])
  have g:=ag (show kH f s i=0 by unfold kH;rw [if_pos (by rw [b.o];exact d)]);go_wp2;go_ret2;rw [b.o,g.o];exact ⟨rfl,u.o⟩
 rw [Decidable.not_not] at d;rw [d];by_cases v:i<0
 ·have b:=ag (show jl f s i=2 by unfold jl;rw [if_neg (by rw [d];decide),if_pos (.inl v)])
  have g:=ag (show kH f s i=0 by unfold kH;rw [if_pos (by rw [b.o];decide)]);clear d;go_wp2;go_ret2;rw [b.o,g.o];exact ⟨rfl,u.o⟩
 by_cases A:(r:Int)<=i
 ·have b:=ag (show jl f s i=2 by unfold jl;rw [if_neg (by rw [d];decide),if_pos (.inr (by rw [<-z.o];exact A))])
  have g:=ag (show kH f s i=0 by unfold kH;rw [if_pos (by rw [b.o];decide)]);have B:decide (i<0)=false:=by simpa using v
  clear d v;go_wp2;go_ret2;rw [b.o,g.o];exact ⟨rfl,u.o⟩
 obtain ⟨j,rfl⟩:∃j:Nat,i=j:=⟨i.toNat,by omega⟩
 have S:j<r:=by omega
 have m:j<(aU f s).length:=by rw [<-z.o];exact S
 have b:=ag (show jl f s j=0 by unfold jl;rw [if_neg (by rw [d];decide),if_neg (by rw [<-z.o];omega)]);have g:=ag (show kH f s j=(aU f s)[j] by unfold kH;rw [if_neg (by rw [b.o];decide)];simp [List.getD,List.getElem?_eq_getElem m]);obtain ⟨Y,Z,rfl,C⟩:=R.o.at6 j m;have B:decide ((j:Int)<0)=false:=by simp
 have T:decide ((r:Int)<=j)=false:=by simpa using A
 have U:(j:Int)<r:=by omega
 obtain ⟨q,F⟩:=ai ((aU f s)[j]);rw [<-F] at C g;clear d v A F m;go_wp2;go_ret2;rw [b.o,g.o];exact ⟨rfl,u.o⟩
theorem tJ (x:FsV) (f:Fsd) (s:ak) (w:World) (h:RdX w x f) (z:WfX f):
  Calls Tryz.prog 75 #[x.val,.string (bs s)] w fun e w'=>e=.returned (.tuple #[.int .i64 (uF f s),.int .i64 (dA f s)])∧ah w w':=by
 have A:=ag z;clear z;obtain ⟨n,m⟩:=aj (w.alloc (.cells x.cs 32));have j:ah w n:=by rw [<-m];exact ae
 have B:=ag (show bf n w.heap.size x by rw [<-m];exact Bq.new _ _ _);obtain ⟨p,q,r,t,u,v⟩:=aV B.o;have C:=ag h;have D:=ag j;clear h j;unfold FsV.val;unfold FsV.cs at m;go_enter Tryz.func75,Tryz.ntmps75;go_wp2_with fail
 refine (WX x f n (C.o.a D.o) A.o).mono ?_
 rintro e E ⟨rfl,d⟩;have F:=ag (B.o.a d);have y:=bT D d;clear p q r t u v m d;obtain ⟨p,q,r,t,u,v⟩:=aV F.o;rcases (wP f).symm with ⟨_,b⟩ | ⟨_,b⟩
 ·rw [b]
  have i:=ag (show dA f s=8∧uF f s=0 by unfold dA uF;rw [if_pos (by rw [b];decide),if_pos (by rw [b];decide)];exact ⟨b,rfl⟩);clear b;go_wp2;go_ret2;rw [i.o.1,i.o.2];exact ⟨rfl,y.o⟩
 rw [b];have i:=ag (show dA f s=il f s∧uF f s=(aU f s).length by unfold dA uF;rw [if_neg (by rw [b];decide),if_neg (by rw [b];decide)];exact ⟨rfl,rfl⟩);clear b;go_wp2_with fail
 refine (qml x f s E (C.o.a y.o) A.o).mono ?_
 rintro e K ⟨G,rfl,k,l⟩;have H:=bT y l;clear p q r t u v l;obtain ⟨I,g⟩:=ai ((aU f s).length);obtain ⟨L,M,J⟩:∃a c,G=.slice a I c:=by rw [g];exact k.rd6.form
 subst J;rw [<-g] at i;clear k g;go_wp2;go_ret2;rw [i.o.1,i.o.2];exact ⟨rfl,H.o⟩
theorem G7 (x:FsV) (f:Fsd) (s:ak) (i:Int) (w:World) (h:RdX w x f) (C:WfX f):
  Calls Tryz.prog 76 #[x.val,.string (bs s),.int .i64 i] w fun e w'=>∃v,e=.returned (.tuple #[v,.int .i64 (lX f s i)])∧aX w' w.heap.size v (lq f s i)∧ah w w':=by
 have D:=ag C;clear C;obtain ⟨z,u⟩:=aj (w.alloc (.cells x.cs 32));have k:ah w z:=by rw [<-u];exact ae
 have E:=ag (show bf z w.heap.size x by rw [<-u];exact Bq.new _ _ _);obtain ⟨l,m,n,p,q,r⟩:=aV E.o;have A:=ag h;have F:=ag k;clear h k;unfold FsV.val;unfold FsV.cs at u;go_enter Tryz.func76,Tryz.ntmps76;go_wp2_with fail
 refine (WX x f z (A.o.a F.o) D.o).mono ?_
 rintro e I ⟨rfl,c⟩;have G:=ag (E.o.a c);have B:=bT F c;clear l m n p q r u c;obtain ⟨l,m,n,p,q,r⟩:=aV G.o;rcases (wP f).symm with ⟨_,a⟩ | ⟨_,a⟩
 ·rw [a]
  have b:=ag (show lX f s i=8∧lq f s i=[] by unfold lX lq;rw [if_pos (by rw [a];decide),if_pos (by rw [a];decide)];exact ⟨a,rfl⟩);clear a;go_wp2;go_ret2;rw [b.o.1,b.o.2];exact ⟨_,rfl,World.ownsRow_nil _ _ _ _,B.o⟩
 rw [a];have b:=ag (show lX f s i=(if jl f s i≠0 then jl f s i else (rQ f.1 (kH f s i)).2)∧lq f s i=(if jl f s i≠0 then [] else (rQ f.1 (kH f s i)).1) by constructor<;>simp [lX,lq,a]);clear a;go_wp2_with fail
 refine (qou x f s i I (A.o.a B.o) D.o).mono ?_
 rintro e J ⟨rfl,g⟩;have K:=ag (G.o.a g);have y:=bT B g;clear l m n p q r g;by_cases j:¬jl f s i=0
 ·rw [if_pos j,if_pos j] at b
  go_wp2;go_ret2;rw [b.o.1,b.o.2];exact ⟨_,rfl,World.ownsRow_nil _ _ _ _,y.o⟩
 rw [if_neg j,if_neg j] at b;rw [Decidable.not_not] at j;rw [j];clear j;obtain ⟨l,m,n,p,q,r⟩:=aV K.o;go_wp2_with fail
 refine (Zn (d:=f.1) (kH f s i) J (A.o.d.a y.o)).mono ?_
 rintro e N ⟨O,rfl,H,t⟩;have L:=bT y t;have M:=ag (H.mono y.o.size);clear l m n p q r t H;go_wp2;go_ret2;rw [b.o.1,b.o.2];exact ⟨_,rfl,M.o,L.o⟩
theorem LZ {a b:Int} {l:List Ex} {w:Int} (u:0<=a) (h:kK a b l w=0):∀x∈jQ a b l w,wfX x:=by
 obtain ⟨g,j,r,d,k⟩:=VZ h;obtain ⟨i,v,z⟩:=LK g;obtain ⟨A,B,C,D⟩:=VI g;rcases ZA (jF a b l) w j (fun x m=>(i.1 x m).2.1) with ⟨e,_⟩ | ⟨p,x,q,c,e,n,o,s,E⟩
 ·rw [e] at d;cases d
 rw [n] at d;cases d;have f:yL a b (p++[(x.1,c)]):=qnu (q:=q) (x:=x) (y:=(x.1,c)) (e ▸ i) rfl o s;rw [k];intro y t;have:=f.1 y t
 unfold wfX;omega
end Go.Proofs.YthpammbgcidloaaGreat
