/-
  Extents that may be; those of all files; a directory's bytes; Check.
-/
import Derived.Test.YthpammbgcidloaaGreatCut
set_option maxHeartbeats 1000000
namespace Go.Proofs.YthpammbgcidloaaGreat
open Go.RowKit
set_option linter.all false
theorem Tryz.infoFl:(Tryz.prog.info? 98).map (fun i=>(i.zero,i.size,i.bytes))=some (some (.agg #[.string ByteArray.empty,.slice none 0 0]),2,40):=by kernel_rfl
def wfFs (fs:List Fl):Prop:=∀f∈fs,∀x∈f.2,wfX x
theorem Pe {fs:List Fl} (h:wfFs fs):∀x∈cZ fs,wfX x:=by
 intro x a;obtain ⟨f,b,a⟩:=List.mem_flatMap.1 a;exact h f b x a
/-! ### what is read -/
def CG (w:World) (b off:Nat) (fs:List Fl):Prop:=
 ∀j,(h:j<fs.length)->w.cell? ⟨b,off+j*2,none⟩=some (.string (bs (fs[j]).1))∧
  ∃a c,w.cell? ⟨b,off+j*2+1,none⟩=some (.slice a (fs[j]).2.length c)∧RdE w (.slice a (fs[j]).2.length c) (fs[j]).2
def RdF (w:World) (v:Value) (fs:List Fl):Prop:=
 (fs=[]∧(v=.slice none 0 0∨∃a c,v=.slice (some a) 0 c))∨
 ∃b off c,v=.slice (some ⟨b,off,none⟩) fs.length c∧fs.length<=c∧c<=maxLen∧CG w b off fs
theorem CG.a {w w':World} {b d:Nat} {fs:List Fl} (h:CG w b d fs) (hb:ah w w'):CG w' b d fs:=by
 intro j g;obtain ⟨e,a,c,f,i⟩:=h j g;refine ⟨?_,a,c, ?_,i.a hb⟩
 ·rw [hb.cell (World.block_lt_of_cell? w _ e)];exact e
 ·rw [hb.cell (World.block_lt_of_cell? w _ f)];exact f
theorem RdF.a {w w':World} {v:Value} {fs:List Fl} (h:RdF w v fs) (hb:ah w w'):RdF w' v fs:=by
 rcases h with h | ⟨b,a,c,rfl,d,e,f⟩
 ·exact .inl h
 ·exact .inr ⟨b,a,c,rfl,d,e,f.a hb⟩
theorem RdF.form {w:World} {v:Value} {fs:List Fl} (h:RdF w v fs):∃a c,v=.slice a fs.length c:=by
 rcases h with ⟨rfl,rfl | ⟨a,c,rfl⟩⟩ | ⟨b,d,c,rfl,_⟩<;>exact ⟨_,_,rfl⟩
theorem RdF.len_le {w:World} {v:Value} {fs:List Fl} (h:RdF w v fs):fs.length<=maxLen:=by
 rcases h with ⟨rfl,_⟩ | ⟨b,a,c,rfl,d,e,_⟩
 ·simp [maxLen]
 ·omega
theorem RdF.at {w:World} {a:au} {n c:Nat} {fs:List Fl} (h:RdF w (.slice a n c) fs) (j:Nat) (f:j<fs.length):
  ∃b d a2 c2,a=some ⟨b,d,none⟩∧w.cell? ⟨b,d+j*2,none⟩=some (.string (bs (fs[j]).1))∧w.cell? ⟨b,d+j*2+1,none⟩=some (.slice a2 (fs[j]).2.length c2)∧RdE w (.slice a2 (fs[j]).2.length c2) (fs[j]).2:=by
 rcases h with ⟨rfl,_⟩ | ⟨b,d,m,e,_,_,g⟩
 ·exact absurd f (by simp)
 ·cases e
  obtain ⟨i,a2,c2,k,l⟩:=g j f;exact ⟨b,d,a2,c2,rfl,i,k,l⟩
theorem RdF.atB {w w':World} {a:au} {n c:Nat} {fs:List Fl} (h:RdF w (.slice a n c) fs) (hb:ah w w') (j:Nat) (i:j<fs.length):
  ∃b d a2 c2,a=some ⟨b,d,none⟩∧w'.cell? ⟨b,d+j*2,none⟩=some (.string (bs (fs[j]).1))∧w'.cell? ⟨b,d+j*2+1,none⟩=some (.slice a2 (fs[j]).2.length c2)∧RdE w (.slice a2 (fs[j]).2.length c2) (fs[j]).2:=by
 obtain ⟨b,d,a2,c2,e,f,g,k⟩:=h.at j i;refine ⟨b,d,a2,c2,e, ?_, ?_,k⟩
 ·rw [hb.cell (World.block_lt_of_cell? w _ f)];exact f
 ·rw [hb.cell (World.block_lt_of_cell? w _ g)];exact g
/-! ### what is owned -/
def fK (ps:List (Fl × Value)):List Value:=ps.flatMap fun p=>[.string (bs p.1.1),p.2]
theorem ql8 (p:Fl × Value) (a:List (Fl × Value)):fK (p::a)=.string (bs p.1.1)::p.2::fK a:=rfl
theorem Pf (a qs:List (Fl × Value)):fK (a++qs)=fK a++fK qs:=by simp [fK]
theorem Ep:∀a:List (Fl × Value),(fK a).length=a.length*2
 | []=>rfl
 | p::a=>by rw [ql8,List.length_cons,List.length_cons,List.length_cons,Ep a];omega
theorem qoi:∀(a:List (Fl × Value)) (j:Nat) (h:j<a.length),(fK a)[j*2]? =some (.string (bs (a[j]).1.1))∧(fK a)[j*2+1]? =some (a[j]).2
 | p::a,0,h=>by simp [fK]
 | p::a,j+1,h=>by
  have:=qoi a j (by simpa using h)
  rw [ql8,show (j+1)*2=j*2+1+1 by omega];simpa using this
theorem ql9 (a:List (Fl × Value)) (k:Nat) (h:k<=a.length):(fK a).take (k*2)=fK (a.take k):=by
 have e:fK a=fK (a.take k)++fK (a.drop k):=by rw [<-Pf,List.take_append_drop]
 have b:(fK (a.take k)).length=k*2:=by rw [Ep,List.length_take,Nat.min_eq_left h]
 rw [e,<-b,List.take_left]
theorem qma (a:List (Fl × Value)) (k:Nat) (h:k<=a.length):(fK a).drop (k*2)=fK (a.drop k):=by
 have e:fK a=fK (a.take k)++fK (a.drop k):=by rw [<-Pf,List.take_append_drop]
 have b:(fK (a.take k)).length=k*2:=by rw [Ep,List.length_take,Nat.min_eq_left h]
 rw [e,<-b,List.drop_left]
theorem bB.ownForm {w:World} {base:Nat} {v:Value} {l:List Ex} (h:bB w base v l):v.oneCell'=true:=by
 rcases h.2 with ⟨rfl,_⟩ | ⟨g,cap,a,rfl,_⟩<;>rfl
theorem qoj {w:World} {base:Nat} {b:List (Fl × Value)} (h:∀p∈b,bB w base p.2 p.1.2):∀u∈fK b,u.oneCell'=true:=by
 intro u a;obtain ⟨p,c,a⟩:=List.mem_flatMap.1 a;simp at a
 rcases a with rfl | rfl
 ·rfl
 ·exact (h p c).ownForm
def mE (w:World) (base:Nat) (v:Value) (ps:List (Fl × Value)):Prop:=w.ownsRow base 98 2 v ps.length (fK ps)∧∀p∈ps,bB w base p.2 p.1.2
def bJ (w:World) (base:Nat) (v:Value) (fs:List Fl):Prop:=∃ps,ps.map Prod.fst=fs∧mE w base v ps
theorem mE.rd {w:World} {base:Nat} {v:Value} {b:List (Fl × Value)} (h:mE w base v b):RdF w v (b.map Prod.fst):=by
 obtain ⟨h,k⟩:=h;rcases h.2 with ⟨rfl,e⟩ | ⟨g,cap,l,rfl,_,q,e,m,n,f⟩
 ·obtain rfl:=List.length_eq_zero_iff.1 e
  exact .inl ⟨rfl,.inl rfl⟩
 ·refine .inr ⟨g,0,cap,by simp,by simpa using e,m,fun j o=>?_⟩
  have d:j<b.length:=by simpa using o
  obtain ⟨e1,p⟩:=qoi b j d;have c1:=h.cells (g:=g) rfl _ _ e1;have c2:=h.cells (g:=g) rfl _ _ p;rw [Addr.add_lit] at c1 c2;have i:=(k b[j] (List.getElem_mem d)).rd;obtain ⟨a,c,hv⟩:=i.form;simp only [List.getElem_map];refine ⟨by simpa using c1,a,c, ?_, ?_⟩
  ·rw [hv] at c2;simpa [Nat.add_assoc] using c2
  ·rw [<-hv];exact i
theorem bJ.rd {w:World} {base:Nat} {v:Value} {fs:List Fl} (h:bJ w base v fs):RdF w v fs:=by obtain ⟨a,rfl,h⟩:=h;exact h.rd
theorem bJ.form {w:World} {base:Nat} {v:Value} {fs:List Fl} (h:bJ w base v fs):∃a c,v=.slice a fs.length c:=h.rd.form
theorem mE.a {w w':World} {base:Nat} {v:Value} {a:List (Fl × Value)} (h:mE w base v a) (hb:ah w w'):mE w' base v a:=⟨pW h.1 hb,fun p b=>(h.2 p b).a hb⟩
theorem bJ.a {w w':World} {base:Nat} {v:Value} {fs:List Fl} (h:bJ w base v fs) (hb:ah w w'):bJ w' base v fs:=by obtain ⟨a,e,h⟩:=h;exact ⟨a,e,h.a hb⟩
theorem mE.mono {w:World} {base a:Nat} {v:Value} {b:List (Fl × Value)} (h:mE w base v b) (hb:a<=base):mE w a v b:=⟨VJ h.1 hb,fun p c=>(h.2 p c).mono hb⟩
theorem bJ.mono {w:World} {base a:Nat} {v:Value} {fs:List Fl} (h:bJ w base v fs) (hb:a<=base):bJ w a v fs:=by obtain ⟨b,e,h⟩:=h;exact ⟨b,e,h.mono hb⟩
theorem mE.nil (w:World) (base:Nat):mE w base (.slice none 0 0) []:=⟨World.ownsRow_nil w base _ _,by simp⟩
theorem bJ.nil (w:World) (base:Nat):bJ w base (.slice none 0 0) []:=⟨[],rfl,mE.nil w base⟩
theorem bB.apartF {w:World} {base:Nat} {v:Value} {l:List Ex} (h:bB w base v l) {k:Nat} {cs:Array Value} {b:Nat × Nat} (c:w.heap[k]? =some (.cells cs 98 b)):v.ownBlock≠some k:=by
 intro e;rcases h.2 with ⟨rfl,f⟩ | ⟨g,cap,d,rfl,_,a,_⟩
 ·cases e
 ·cases e
  rw [c] at a;cases a
theorem bB.keptF {w w':World} {base:Nat} {v:Value} {l:List Ex} (h:bB w base v l) {b:Value} {c n:Nat} {d:List Value} (e:w.ownsRow c 98 2 b n d) (a:w.grownBy w' b.ownBlock):bB w' base v l:=by
 refine World.ownsRow.kept h a ?_
 rcases e.2 with ⟨rfl,i⟩ | ⟨g,cap,f,rfl,_,a,_⟩
 ·cases hv:v.ownBlock with
  | none=>exact .inl rfl
  | some k=>exact .inr (by simp [Value.ownBlock])
 ·exact .inr (h.apartF a)
theorem Pg (w:World) (cs:Array Value) (t:TypeId):∀j u,cs.toList[j]? =some u->(w.alloc (.cells cs t)).cell? ((⟨w.heap.size,0,none⟩:Addr).add j)=some u:=by
 intro j u a;have:=World.news_of_block (w:=w.alloc (.cells cs t)) (heap_alloc_new w _) j u (by simpa using a)
 simpa using this
theorem qv7 {w:World} {base:Nat} {v:Value} {a:List (Fl × Value)} (h:mE w base v a) (hb:base<=w.heap.size) (K:a.length<=1000000) (s:ak) (x:Value) (l:List Ex) (y:bB w base x l):
  ∃g c w',(Builtin.append_ #[28,28] 28 #[v,.slice (some ⟨w.heap.size,0,none⟩) 1 1]).run Tryz.prog (w.alloc (.cells #[.string (bs s),x] 98))=.ok (.slice (some ⟨g,0,none⟩) (a.length+1) c) w'∧
   mE w' base (.slice (some ⟨g,0,none⟩) (a.length+1) c) (a++[((s,l),x)])∧Below base w w':=by
 obtain ⟨i,z⟩:=ai (w.alloc (.cells #[.string (bs s),x] 98));have A:=Pg w #[.string (bs s),x] 98;rw [<-z] at A ⊢;have b:ah w i:=by rw [z];exact ae
 obtain ⟨E,F,j,m,n⟩:=info_parts Tryz.infoFl;have o:i.ownsRow base 98 2 v a.length (fK a):=pW h.1 b;obtain ⟨L,q,G,B,C,_⟩:=run_append_own (P:=Tryz.prog) i base 28 28 98 E _ 2 40 Tryz.underlying28 F j m n rfl (by decide) _ _ _ o ⟨w.heap.size,0,none⟩ 1 1 [.string (bs s),x] rfl A (by
  intro u D;simp at D
  rcases D with rfl | rfl
  ·rfl
  ·exact y.ownForm) (by unfold maxLen;omega) (by omega) (aC hb b.size)
 have H:Below base w q:=(b.mono hb).grown C (aC hb b.size) fun k I=>(o.lt k I).1
 have e:fK (a++[((s,l),x)])=fK a++[.string (bs s),x]:=by rw [Pf];rfl
 have r:(a++[((s,l),x)]).length=a.length+1:=by simp
 have t:∀p∈a++[((s,l),x)],bB q base p.2 p.1.2:=by
  intro p d;have f:bB i base p.2 p.1.2:=by
   rcases List.mem_append.1 d with d | d
   ·exact (h.2 p d).a b
   ·obtain rfl:p=((s,l),x):=by simpa using d
    exact y.a b
  exact f.keptF o C
 rcases B.2 with ⟨_,f⟩ | ⟨g,cap,J,f,_⟩
 ·exact absurd f (by omega)
 ·subst f
  exact ⟨g,cap,q,G,⟨by rw [r,e];exact B,t⟩,H⟩
theorem Er {w:World} {base:Nat} {v:Value} {f:List Ex} (o:bB w base v f) (hb:base<=w.heap.size) {a:au} {n c:Nat} {l:List Ex} (h:RdE w (.slice a n c) l) (F:n=l.length) (O:f.length+l.length<=1000000):
  ∃b g w',(Builtin.append_ #[96,96] 96 #[v,.slice a n c]).run Tryz.prog w=.ok (.slice b (f++l).length g) w'∧bB w' base (.slice b (f++l).length g) (f++l)∧Below base w w':=by
 subst F;obtain ⟨C,D,t,y,z⟩:=info_parts Tryz.infoEx;have A:w.ownsRow base 185 2 v f.length (cellsE f):=o;have p:∀s:Addr,a=some s->(∀j u,(cellsE l)[j]? =some u->w.cell? (s.add j)=some u)->∃b g w',(Builtin.append_ #[96,96] 96 #[v,.slice a l.length c]).run Tryz.prog w=.ok (.slice b (f++l).length g) w'∧bB w' base (.slice b (f++l).length g) (f++l)∧Below base w w':=by
  rintro s rfl G;obtain ⟨Q,E,H,B,I,_⟩:=run_append_own (P:=Tryz.prog) w base 96 96 185 C _ 2 16 Tryz.underlying96 D t y z rfl (by decide) _ _ _ A s l.length c (cellsE l) (NH l) G (qx0 l) (by unfold maxLen;omega) (by omega) hb;have J:Below base w E:=aB.grown I hb fun k K=>(A.lt k K).1
  rw [<-List.length_append,<-VL] at B;obtain ⟨b,g,rfl⟩:=bB.form (l:=f++l) B;exact ⟨b,g,E,H,B,J⟩
 rcases h with ⟨rfl,e | ⟨x,d,e⟩⟩ | ⟨b,L,g,e,R,S,i⟩
 ·cases e
  obtain ⟨b,g,rfl⟩:=o.form;refine ⟨b,g,w, ?_,by simpa using o,aB⟩;rw [List.append_nil];exact run_append_owned_none (P:=Tryz.prog) (w:=w) base 96 96 185 C 2 Tryz.underlying96 D _ _ _ A
 ·cases e
  exact p _ rfl (fun j u m=>by simp [cellsE] at m)
 ·cases e
  refine p _ rfl fun j u m=>?_
  have M:j<l.length*2:=by rw [<-NH];exact (List.getElem?_eq_some_iff.1 m).1
  rw [Addr.add_lit];obtain ⟨q,T⟩:=ai (j / 2);have r:q<l.length:=by omega
  obtain ⟨c1,c2⟩:=i q r;obtain ⟨e1,N⟩:=VM l q r;rcases Nat.mod_two_eq_zero_or_one j with o | o
  ·obtain rfl:j=q*2:=by omega
   rw [e1] at m;cases m;exact c1
  ·obtain rfl:j=q*2+1:=by omega
   rw [N] at m;cases m;exact c2
theorem Wm (s:ak):(bs s).toList=s:=by rw [ByteArray.toList_eq,Lv]
theorem tT (s:ak) (w:World):Calls Tryz.prog 151 #[.string (bs s)] w fun e w'=>e=.returned (.bool (jw s))∧w'=w:=by
 have g:=Lx s;by_cases b:1<=s.length
 ·have c:(1:Int)<=s.length:=by omega
  by_cases f:s.length<=16
  ·have a:=ag (show jw s=true by simp [jw,b,f])
   have d:(s.length:Int)<=16:=by omega
   go_enter Tryz.func151,Tryz.ntmps151;go_wp2;go_ret;exact ⟨by rw [a.o];rfl,rfl⟩
  ·have a:=ag (show jw s=false by simp [jw,b,f])
   have d:(16:Int)<s.length:=by omega
   go_enter Tryz.func151,Tryz.ntmps151;go_wp2;go_ret;exact ⟨by rw [a.o];first | rfl | (simp;done) | (simp;omega),rfl⟩
 ·have a:=ag (show jw s=false by simp [jw,b])
  have c:(s.length:Int)<1:=by omega
  go_enter Tryz.func151,Tryz.ntmps151;go_wp2;go_ret;exact ⟨by rw [a.o];first | rfl | (simp;omega),rfl⟩
theorem qgx (b:Int) (w:World):Calls Tryz.prog 139 #[.int .i64 b] w fun e w'=>e=.returned (.bool (decide (fq b)))∧w'=w:=by
 by_cases c:34<b
 ·by_cases d:b<=4096
  ·have a:=ag (show decide (fq b)=true by simp [fq,c,d])
   go_enter Tryz.func139,Tryz.ntmps139;go_wp2;go_ret;exact ⟨by rw [a.o];rfl,rfl⟩
  ·have a:=ag (show decide (fq b)=false by simp [fq,d])
   have f:4096<b:=by omega
   go_enter Tryz.func139,Tryz.ntmps139;go_wp2;go_ret;exact ⟨by rw [a.o];first | rfl | (simp;done) | (simp;omega),rfl⟩
 ·have a:=ag (show decide (fq b)=false by simp [fq,c])
  have g:b<=34:=by omega
  go_enter Tryz.func139,Tryz.ntmps139;go_wp2;go_ret;exact ⟨by rw [a.o];first | rfl | (simp;omega),rfl⟩
theorem L9 (s t:ak):Op.bytesLess (bs s).toList (bs t).toList=ek s t:=by rw [Wm,Wm,NP]
theorem zQ (s t:ak):((bs s).toList==(bs t).toList)=(s==t):=by rw [Wm,Wm]
theorem qp0 (a:au) (n c:Nat) (fs:List Fl) (w:World) (q:RdF w (.slice a n c) fs) (z:n=fs.length):
  Calls Tryz.prog 178 #[.slice a n c] w fun e w'=>e=.returned (.bool (decide (oP fs)))∧ah w w':=by
 have T:n<=maxLen:=z ▸ q.len_le;unfold maxLen at T;have U:=ag q;have H:=ag z;clear q z;go_enter Tryz.func178,Tryz.ntmps178;go_wp2;go_loopw [7] (fun i wr=>∃k:Nat,k<=n∧i=.int .i64 k∧af (oP (fs.take k))∧ah w wr) (fun i _=>n - (intOf i).toNat)
 case atStart=>exact ⟨0,Nat.zero_le _,rfl,ag (by simpa using qrs),aB⟩
 case round=>
  obtain ⟨k,hk,rfl,l,h⟩:=hrel;by_cases V:k<n
  ·have I:(k:Int)<n:=by omega
   have g:k<fs.length:=by have:=H.o;omega
   have J:=ag (U.o.a h);obtain ⟨b,A,a2,c2,rfl,K,B,L⟩:=J.o.at k g;have v:=ag L;clear L;obtain ⟨f,C⟩:=ai (fs[k]);rw [<-C] at K B v;have t:=ag C;clear C;have x:∀o,ah w (wr.alloc o):=fun o=>h.alloc h.size o
   have d:=tT f.1;cases hnm:jw f.1 with
   | false=>
    have p:=ag (show decide (oP fs)=false by
     have:jb fs[k]=false:=by rw [<-t.o];simp [jb,hnm]
     simpa using VR g this)
    rw [hnm] at d;clear hnm;go_wp2_with (go_at_call 151;refine (d _).mono ?_;rintro e wc ⟨rfl,rfl⟩)
    go_ret;exact ⟨by rw [p.o];rfl,x _⟩
   | true=>
    rw [hnm] at d;obtain ⟨m,r⟩:=ai f.2.length;rw [<-r] at B v;have u:=ag r;clear r;by_cases M:m=0
    ·have p:=ag (show decide (oP fs)=false by
      have:jb fs[k]=false:=by rw [<-t.o];have:=u.o;simp [jb,hnm];omega
      simpa using VR g this)
     clear hnm u v;subst M;go_wp2_with (go_at_call 151;refine (d _).mono ?_;rintro e wc ⟨rfl,rfl⟩)
     go_ret;exact ⟨by rw [p.o];rfl,x _⟩
    have W:((m:Int)==0)=false:=by simpa using M
    by_cases g2:64<m
    ·have p:=ag (show decide (oP fs)=false by
      have:jb fs[k]=false:=by rw [<-t.o];have:=u.o;simp [jb,hnm];omega
      simpa using VR g this)
     have D:(64:Int)<m:=by omega
     clear hnm u v;go_wp2_with (go_at_call 151;refine (d _).mono ?_;rintro e wc ⟨rfl,rfl⟩)
     go_ret;exact ⟨by rw [p.o];rfl,x _⟩
    have D:decide ((64:Int)<m)=false:=aA (by omega);have N:=ag (show jb fs[k]=true by rw [<-t.o];have:=u.o;simp [jb,hnm];omega);clear hnm u v;have y:af (∀o,ah w (wr.alloc o)):=x;clear x;by_cases E:k=0
    ·subst E
     rw [Nat.zero_mul,Nat.add_zero] at K B;have F:=ag (show oP (fs.take (0+1)) from Z6 g l.o N.o (fun j hj=>by omega));go_wp2_with (go_at_call 151;refine (d _).mono ?_;rintro e wc ⟨rfl,rfl⟩)
     go_quiet (fail)
     go_wp2;go_roundw
     case rel=>exact ⟨1,by omega,rfl,F,by have:=y.o;first | exact below_drewN (this _) _ | exact (this _).drew | exact this _⟩
     case measure=>simp only [intOf];omega
    ·obtain ⟨j,rfl⟩:∃j,k=j+1:=⟨k - 1,by omega⟩
     obtain ⟨b',O,a3,c3,X,P,Y,Z⟩:=J.o.at j (by omega);cases X;have aa:(j:Int)<n:=by omega
     have hw:IntKind.i64.wrap (j:Int)=j:=by rw [IntKind.wrap_i64];omega
     obtain ⟨s,G⟩:=ai ((fs[j]).1);rw [<-G] at P;have Q:=ag G;have q6:∀o,(wr.alloc o).cell? ⟨b,A+j*2,none⟩=some (.string (bs s)):=fun o=>Lib.cell?_alloc_some _ P
     clear Y Z G;cases hl:ek s f.1 with
     | true=>
      have F:=ag (show oP (fs.take (j+1+1)) from Z6 g l.o N.o (fun i hi=>by
       obtain rfl:i=j:=by omega
       rw [<-Q.o,<-t.o];exact hl))
      have R:Op.bytesLess (bs f.1).toList (bs s).toList=false:=by rw [L9];exact VQ hl
      have S:((bs f.1).toList==(bs s).toList)=false:=by rw [zQ];simpa using (Gc hl).symm
      clear hl;go_wp2_with (go_at_call 151;refine (d _).mono ?_;rintro e wc ⟨rfl,rfl⟩)
      go_quiet (fail)
      go_wp2;go_roundw
      case rel=>exact ⟨j+2,by omega,by go_num,F,by have:=y.o;first | exact below_drewN (this _) _ | exact (this _).drew | exact this _⟩
      case measure=>simp only [intOf];omega
     | false=>
      have p:=ag (show decide (oP fs)=false by
       have:ek (fs[j]).1 (fs[j+1]).1=false:=by rw [<-Q.o,<-t.o];exact hl
       simpa using qny g this)
      by_cases e0:f.1=s
      ·have R:Op.bytesLess (bs f.1).toList (bs s).toList=false:=by rw [L9,e0];exact LU s
       have S:((bs f.1).toList==(bs s).toList)=true:=by rw [zQ,e0];simp
       clear hl e0;go_wp2_with (go_at_call 151;refine (d _).mono ?_;rintro e wc ⟨rfl,rfl⟩)
       go_quiet (fail)
       go_wp2;go_ret;exact ⟨by rw [p.o];rfl,by have:=y.o;first | exact below_drewN (this _) _ | exact (this _).drew | exact this _⟩
      ·have R:Op.bytesLess (bs f.1).toList (bs s).toList=true:=by rw [L9];exact NQ _ _ hl (fun e=>e0 e.symm)
       have S:((bs f.1).toList==(bs s).toList)=false:=by rw [zQ];simpa using e0
       clear hl e0;go_wp2_with (go_at_call 151;refine (d _).mono ?_;rintro e wc ⟨rfl,rfl⟩)
       go_quiet (fail)
       go_wp2;go_ret;exact ⟨by rw [p.o];rfl,by have:=y.o;first | exact below_drewN (this _) _ | exact (this _).drew | exact this _⟩
  ·have hd:decide ((k:Int)<n)=false:=aA (by omega)
   have e:k=fs.length:=by have:=H.o;omega
   have p:=ag (show decide (oP fs)=true by have:=l.o;rw [e,List.take_length] at this;simpa using this);clear e;go_wp2;go_ret;exact ⟨by rw [p.o];rfl,h⟩
theorem Ma {l:List Ex} (h:dY l=0):l.length<=4096∧∀x∈l,0<=x.1∧1<=x.2∧x.1+x.2<=4096:=by
 have a:dI l=0:=by
  unfold dY at h;by_cases e:dI l=0
  ·exact e
  ·rw [if_pos e] at h;exact absurd h e
 unfold dI at a;split at a
 ·cases a
 ·split at a
  ·rename_i h2 h3
   refine ⟨by omega,fun x b=>?_⟩;have:=List.all_eq_true.1 h3 x b
   simp only [eP,Bool.and_eq_true,decide_eq_true_eq] at this;omega
  ·cases a
theorem Gr (a:au) (n c:Nat) (l:List Ex) (B:Int) (w:World) (f:RdE w (.slice a n c) l) (u:n=l.length) (t:∀x∈l,wfX x):
  Calls Tryz.prog 153 #[.slice a n c,.int .i64 B] w fun e w'=>e=.returned (.bool (decide (dL l B)))∧ah w w':=by
 have K:n<=maxLen:=u ▸ f.len_le;unfold maxLen at K;have v:=qro a n c l w f u t;have L:=ag f;have E:=ag u;clear f u t;by_cases s:dY l=0
 ·have M:=ag (Ma s)
  have N:=ag s;rw [s] at v;clear s;go_enter Tryz.func153,Tryz.ntmps153;go_wp2_with (go_at_call 191;refine v.mono ?_;rintro e O ⟨rfl,g⟩)
  clear v;go_loopw [12] (fun i wr=>∃k:Nat,k<=n∧i=.int .i64 k∧af (∀x∈l.take k,34<=x.1∧x.1+x.2<=B)∧ah w wr) (fun i _=>n - (intOf i).toNat)
  case atStart=>exact ⟨0,Nat.zero_le _,rfl,ag (by simp),g⟩
  case round=>
   obtain ⟨k,W,rfl,q,d⟩:=hrel;clear g;by_cases Q:k<n
   ·have F:(k:Int)<n:=by omega
    have j:k<l.length:=by have:=E.o;omega
    obtain ⟨b,R,rfl,G,H⟩:=(L.o.a d).at k j;have m:=M.o.2 _ (List.getElem_mem j);have z:=ag (show ∀P:Prop,P=(34<=(l[k]).1∧(l[k]).1+(l[k]).2<=B)->(P->∀x∈l.take (k+1),34<=x.1∧x.1+x.2<=B)∧(¬P->decide (dL l B)=false) by
     rintro P rfl;refine ⟨fun h x m=>?_,fun h=>?_⟩
     ·rw [uE l k j] at m
      rcases List.mem_append.1 m with m | m
      ·exact q.o x m
      ·rw [List.mem_singleton.1 m];exact h
     ·simp only [decide_eq_false_iff_not]
      exact fun S=>h (S.2 _ (List.getElem_mem j)))
    obtain ⟨p,I⟩:=ai (l[k]);rw [<-I] at G H m z;clear I;obtain ⟨x,y⟩:=p;simp only at G H m
    have A:=ag (show ∀o,ah w (wr.alloc o) from fun o=>d.alloc d.size o);have X:wrap64 (x+y)=x+y:=by unfold wrap64;omega
    by_cases J:x<34
    ·have r:=ag ((z.o _ rfl).2 (fun h=>by simp only at h;omega))
     go_wp2;all_goals first | (go_ret;exact ⟨by rw [r.o];rfl,A.o _⟩) | (exfalso;omega)
    ·by_cases T:B<x+y
     ·have r:=ag ((z.o _ rfl).2 (fun h=>by simp only at h;omega))
      have C:decide (x<34)=false:=by simpa using J
      go_wp2;all_goals first | (go_ret;exact ⟨by rw [r.o];rfl,A.o _⟩) | (exfalso;omega)
     ·have D:=ag ((z.o _ rfl).1 ⟨by simp only;omega,by simp only;omega⟩)
      have C:decide (x<34)=false:=by simpa using J
      have U:decide (B<x+y)=false:=by simpa using T
      go_wp2;go_roundw
      case rel=>exact ⟨k+1,by omega,rfl,D,A.o _⟩
      case measure=>simp only [intOf];omega
   ·have Y:decide ((k:Int)<n)=false:=aA (by omega)
    have e:k=l.length:=by have:=E.o;omega
    have r:=ag (show decide (dL l B)=true by
     have:=q.o
     rw [e,List.take_length] at this;exact decide_eq_true (⟨N.o,this⟩:dL l B))
    clear e;go_wp2;go_ret;exact ⟨by rw [r.o];rfl,d⟩
 ·have r:=ag (show decide (dL l B)=false by simp [dL,s])
  have V:(dY l==0)=false:=by simpa using s
  go_enter Tryz.func153,Tryz.ntmps153;go_wp2_with (go_at_call 191;refine v.mono ?_;rintro e O ⟨rfl,g⟩)
  all_goals first | (go_ret;exact ⟨by rw [r.o];rfl,g⟩) | (exfalso;simp_all;done)
theorem Y0 (a:au) (n c:Nat) (fs:List Fl) (w:World) (h:RdF w (.slice a n c) fs) (s:n=fs.length) (z:(cZ fs).length<=1000000):
  Calls Tryz.prog 154 #[.slice a n c] w fun e w'=>∃v,e=.returned v∧bB w' w.heap.size v (cZ fs)∧ah w w':=by
 have I:n<=maxLen:=s ▸ h.len_le;unfold maxLen at I;have J:=ag h;have A:=ag s;have K:=ag z;clear h s z;go_enter Tryz.func154,Tryz.ntmps154;go_wp2;go_loopw [8,3] (fun i v wr=>∃k:Nat,k<=n∧i=.int .i64 k∧af (bB wr w.heap.size v (cZ (fs.take k)))∧ah w wr) (fun i _ _=>n - (intOf i).toNat)
 case atStart=>exact ⟨0,Nat.zero_le _,rfl,ag (by simpa [cZ] using bB.nil _ _),aB⟩
 case round=>
  obtain ⟨k,U,rfl,d,g⟩:=hrel;by_cases M:k<n
  ·have B:(k:Int)<n:=by omega
   have l:k<fs.length:=by have:=A.o;omega
   have r:=ag (Z4 fs k l);have t:=ag (show (cZ (fs.take k)).length+(fs[k]).2.length<=1000000 by
    have N:(cZ (fs.take (k+1))).length<=(cZ fs).length:=by
     have:cZ fs=cZ (fs.take (k+1))++cZ (fs.drop (k+1)):=by unfold cZ;rw [<-List.flatMap_append,List.take_append_drop]
     rw [this,List.length_append];omega
    have V:=K.o;rw [r.o,List.length_append] at N;omega)
   obtain ⟨b,O,a2,c2,rfl,P,C,D⟩:=(J.o.a g).at k l;have u:=ag D;clear D;obtain ⟨f,E⟩:=ai (fs[k]);rw [<-E] at P C u r t;clear E;have x:∀o,ah w (wr.alloc o):=fun o=>g.alloc g.size o
   have j:∀o,ah wr (wr.alloc o):=fun o=>ae
   obtain ⟨L,F⟩:=ai (cZ (fs.take k));rw [<-F] at d r t;clear F;have y:=ag (fun o=>Er (d.o.a (j o)) (x o).size (u.o.a (j o)) rfl t.o);have Q:=ag x;clear x j;obtain ⟨m,p⟩:=ai f.2.length;rw [<-p] at C y;clear p u;obtain ⟨W,R⟩:=ai (wr.alloc (.cells #[.string (bs f.1),.slice a2 m c2] 98));obtain ⟨X,Y,Z,q,G,H⟩:=y.o (.cells #[.string (bs f.1),.slice a2 m c2] 98);have S:=ag G;have T:=ag (Q.o (.cells #[.string (bs f.1),.slice a2 m c2] 98) |>.trans H);clear G H y R;go_wp2_with (at_builtin;refine ku rfl (.tmp 12) (.tmp 14) 96 rfl rfl rfl rfl q ?_)
   go_roundw
   case rel=>exact ⟨k+1,by omega,rfl,ag (by rw [r.o,<-List.length_append];exact S.o),T.o⟩
   case measure=>simp only [intOf];omega
  ·have hd:decide ((k:Int)<n)=false:=aA (by omega)
   have e:k=fs.length:=by have:=A.o;omega
   rw [e,List.take_length] at d;clear e;go_wp2;go_ret;exact ⟨_,rfl,d.o,g⟩
/-! ### bytes -/
def okB (fs:List Fl):Prop:=fs.length<=1000∧∀f∈fs,f.1.length<=1000∧f.2.length<=1000∧∀x∈f.2,0<=x.1∧x.1<=4096∧0<=x.2∧x.2<=4096
theorem Wn:∀(l:List Ex),(∀x∈l,0<=x.1∧x.1<=4096∧0<=x.2∧x.2<=4096)->(dZ l).length<=20*l.length
 | [],_=>by simp [dZ]
 | x::l,h=>by
  have a:=Wn l (fun y b=>h y (by simp [b]));have c:=h x (by simp);have d:=rF (n:=x.1.toNat) (by omega);have e:=rF (n:=x.2.toNat) (by omega);unfold dZ at a ⊢;simp only [List.flatMap_cons,List.length_append,List.length_cons,kM];omega
theorem qaa0 (f:Fl) (h:f.1.length<=1000∧f.2.length<=1000∧∀x∈f.2,0<=x.1∧x.1<=4096∧0<=x.2∧x.2<=4096):(kv f).length<=30000:=by
 have a:=rF (n:=f.1.length) (by omega);have b:=rF (n:=f.2.length) (by omega);have c:=Wn f.2 h.2.2;simp only [kv,tx,List.length_append];omega
theorem qr6:∀(fs:List Fl),(∀f∈fs,f.1.length<=1000∧f.2.length<=1000∧∀x∈f.2,0<=x.1∧x.1<=4096∧0<=x.2∧x.2<=4096)->(fs.flatMap kv).length<=30000*fs.length
 | [],_=>by simp
 | f::fs,h=>by
  have b:=qr6 fs (fun y a=>h y (by simp [a]));have c:=qaa0 f (h f (by simp));simp only [List.flatMap_cons,List.length_append,List.length_cons];omega
theorem qv8 {fs:List Fl} (h:okB fs) (k:Nat):((fs.take k).flatMap kv).length<=30000000:=by
 have:=qr6 (fs.take k) (fun f a=>h.2 f (List.mem_of_mem_take a))
 have b:(fs.take k).length<=1000:=by rw [List.length_take];have:=h.1;omega
 omega
abbrev jq (w:World) (base:Nat) (v:Value) (l:ak):Prop:=w.ownsRow base 5 1 v l.length (bW l)
theorem jq.a {w w':World} {base:Nat} {v:Value} {l:ak} (h:jq w base v l) (hb:ah w w'):jq w' base v l:=pW h hb
def iV (w w':World):Prop:=∀(k:Nat) (cs:Array Value) (t:TypeId) (fr:Nat × Nat),t≠5->w.heap[k]? =some (Obj.cells cs t fr)->w'.heap[k]? =some (Obj.cells cs t fr)
theorem iV.of_below {w w':World} (h:ah w w'):iV w w':=fun k cs t b _ a=>by rw [h.block k (Array.getElem?_eq_some_iff.1 a).1];exact a
theorem iV.refl (w:World):iV w w:=fun _ _ _ _ _ h=>h
theorem Es {w:World} {base:Nat} {v:Value} {l:ak} (h:jq w base v l) (hb:base<=w.heap.size) {q:Value} {a:ak} (H:Rd w q a) (Q:l.length+a.length<=1000000000):
  ∃i w',(Builtin.append_ #[22,22] 22 #[v,q]).run Tryz.prog w=.ok i w'∧jq w' base i (l++a)∧Below base w w'∧iV w w':=by
 obtain ⟨C,D,s,y,z⟩:=info_parts Tryz.infoB;have n:∀r m c,q=.slice (some r) m c->m=a.length->(∀j u,(bW a)[j]? =some u->w.cell? (r.add j)=some u)->∃i w',(Builtin.append_ #[22,22] 22 #[v,q]).run Tryz.prog w=.ok i w'∧jq w' base i (l++a)∧Below base w w'∧iV w w':=by
  rintro r m c rfl rfl I;obtain ⟨J,E,K,F,G,_⟩:=run_append_own (P:=Tryz.prog) w base 22 22 5 C _ 1 1 Tryz.underlying22 D s y z rfl (by decide) _ _ _ h r a.length c (bW a) (by simp [bW]) I (FC a) (by unfold maxLen;omega) (by omega) hb;have L:Below base w E:=aB.grown G hb fun k o=>(h.lt k o).1
  rw [<-List.length_append,<-M5] at F;refine ⟨J,E,K,F,L,fun k cs t R M o=>?_⟩;rw [G.block k (Array.getElem?_eq_some_iff.1 o).1 ?_]
  ·exact o
  ·intro e
   rcases h.2 with ⟨rfl,_⟩ | ⟨g,cap,N,rfl,_,p,_⟩
   ·cases e
   ·cases e;rw [o] at p;cases p;exact M rfl
 rcases H with ⟨rfl,rfl | ⟨x,d,rfl⟩⟩ | ⟨b,O,S,rfl,T,U,f⟩
 ·refine ⟨v,w, ?_,by simpa using h,aB,iV.refl _⟩
  exact run_append_owned_none (P:=Tryz.prog) (w:=w) base 22 22 5 C 1 Tryz.underlying22 D _ _ _ h
 ·exact n _ _ _ rfl rfl (fun j u A=>by simp [bW] at A)
 ·refine n _ _ _ rfl rfl fun j u A=>?_
  obtain ⟨B,rfl⟩:=FD a j u A;rw [Addr.add_lit];exact f j B
end Go.Proofs.YthpammbgcidloaaGreat
