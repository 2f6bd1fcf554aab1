/-
  What frame's count, part and begun do.
-/
import Derived.Test.YthpammbgcidloaaGreatFsFn5
set_option maxHeartbeats 2000000
set_option maxRecDepth 100000
namespace Go.Proofs.YthpammbgcidloaaGreat
open Go.RowKit
set_option linter.all false
theorem qus (w:World):∃b,(Instr.makeSlice 22 (.int .i64 128) (.int .i64 128)).run Tryz.prog w=.ok (.slice (some ⟨w.heap.size,0,none⟩) 128 128) b∧aX b w.heap.size (.slice (some ⟨w.heap.size,0,none⟩) 128 128) (List.replicate 128 0)∧ah w b:=by
 obtain ⟨h,i,c,d,f⟩:=info_parts Tryz.infoB;obtain ⟨b,j,a,g⟩:=run_make_full (P:=Tryz.prog) w w.heap.size 22 5 h _ 1 Tryz.underlying22 i c d .i64 .i64 128 (by rw [f];decide) (by unfold maxLen;decide) aI;refine ⟨b,j, ?_,aB.grown g aI (fun k l=>by cases l)⟩;show b.ownsRow _ _ _ _ _ _
 rw [List.length_replicate];have e:(madeCells (Value.int IntKind.u8 0).cells (128*1)).toList=bW (List.replicate 128 0):=by
  show (madeCells #[Value.int .u8 0] (128*1)).toList=_
  rw [toList_madeCells_one];simp [bW]
 rw [<-e];exact a
theorem Tryz.infoSl8:(Tryz.prog.info? 22).map (fun i=>(i.zero,i.size,i.bytes))=some (some (.slice none 0 0),1,24):=by kernel_rfl
theorem Mv {w w':World} {f n:Nat} {e1 b:TypeId} {g o:Nat} {i j:Value} {n1 n2:Nat} {k p:List Value} (h:w.ownsRow f e1 g i n1 k) (q:w.ownsRow n b o j n2 p) (c:e1≠b) (r:w.grownBy w' j.ownBlock):w'.ownsRow f e1 g i n1 k:=by
 refine World.ownsRow.kept h r ?_
 rcases h.2 with ⟨rfl,_⟩ | ⟨s,c1,l,rfl,_,d,_⟩
 ·exact .inl rfl
 ·right
  rcases q.2 with ⟨rfl,_⟩ | ⟨t,c2,m,rfl,_,a,_⟩
  ·intro e;cases e
  ·intro e
   have u:s=t:=by injection e
   subst u;rw [d] at a;injection a with b;injection b with _ e3;exact c e3
def bu (w:World) (base:Nat) (v:Value) (ls:List (ak)):Prop:=∃ps:List (ak × Value),ps.map (·.1)=ls∧w.ownsRow base 22 1 v ls.length (ps.map (·.2))∧∀p∈ps,aX w base p.2 p.1
theorem bu.nil (w:World) (base:Nat):bu w base (.slice none 0 0) []:=⟨[],rfl,World.ownsRow_nil _ _ _ _,by simp⟩
theorem bu.a {w w':World} {base:Nat} {v:Value} {a:List (ak)} (h:bu w base v a) (hb:ah w w'):bu w' base v a:=by
 obtain ⟨b,e,c,d⟩:=h;exact ⟨b,e,pW c hb,fun p f=>(d p f).a hb⟩
theorem bu.mono {w:World} {base a:Nat} {v:Value} {b:List (ak)} (h:bu w base v b) (hb:a<=base):bu w a v b:=by
 obtain ⟨c,e,d,f⟩:=h;exact ⟨c,e,Vr d hb,fun p g=>(f p g).mono hb⟩
theorem bu.grown {w w':World} {base g:Nat} {v:Value} {a:List (ak)} (h:bu w base v a) (b:w.grownBy w' (some g)) (hb:g<base):bu w' base v a:=by
 obtain ⟨c,e,d,f⟩:=h;exact ⟨c,e,YF d b hb,fun p i=>(f p i).grown b hb⟩
theorem bu.form {w:World} {base:Nat} {v:Value} {b:List (ak)} (h:bu w base v b):∃a c,v=.slice a b.length c:=by
 obtain ⟨j,e,d,k⟩:=h;rcases d.2 with ⟨rfl,f⟩ | ⟨g,cap,i,rfl,_⟩
 ·rw [f];exact ⟨_,_,rfl⟩
 ·exact ⟨_,_,rfl⟩
theorem bu.at {w:World} {base:Nat} {a:au} {n c:Nat} {b:List (ak)} (h:bu w base (.slice a n c) b) (j:Nat) (k:j<b.length):
  ∃g y z,a=some ⟨g,0,none⟩∧w.cell? ⟨g,j,none⟩=some (.slice y (b[j]).length z)∧aX w base (.slice y (b[j]).length z) b[j]:=by
 obtain ⟨f,rfl,l,o⟩:=h;have d:j<f.length:=by simpa using k
 rcases l.2 with ⟨e,m⟩ | ⟨g,cap,p,e,_⟩
 ·simp at m;subst m;simp at k
 ·cases e
  have c1:=l.cells (g:=g) rfl j ((f[j]).2) (by simp [List.getElem?_eq_getElem d]);have i:=o f[j] (List.getElem_mem d);obtain ⟨y,z,hv⟩:=i.form;simp only [List.getElem_map];rw [hv] at c1 i;exact ⟨g,y,z,rfl,by simpa [Addr.add_lit] using c1,i⟩
theorem Qr {w:World} {base:Nat} {v:Value} {a:List (ak)} (h:bu w base v a) (hb:base<=w.heap.size) (N:a.length<=1000000) (y:au) (n z:Nat) (l:ak) (E:aX w base (.slice y n z) l):
  ∃g c w',(Builtin.append_ #[42,42] 42 #[v,.slice (some ⟨w.heap.size,0,none⟩) 1 1]).run Tryz.prog (w.alloc (.cells #[.slice y n z] 22))=.ok (.slice (some ⟨g,0,none⟩) (a.length+1) c) w'∧
   bu w' base (.slice (some ⟨g,0,none⟩) (a.length+1) c) (a++[l])∧Below base w w':=by
 obtain ⟨j,e,F,G⟩:=h;obtain ⟨i,x⟩:=ai (w.alloc (.cells #[.slice y n z] 22));have A:=Pg w #[.slice y n z] 22;rw [<-x] at A ⊢;have b:ah w i:=by rw [x];exact ae
 obtain ⟨H,I,m,o,q⟩:=info_parts Tryz.infoSl8;have r:i.ownsRow base 22 1 v a.length (j.map (·.2)):=pW F b;obtain ⟨O,s,J,B,C,_⟩:=run_append_own (P:=Tryz.prog) i base 42 42 22 H _ 1 24 Tryz.underlying42 I m o q rfl (by decide) _ _ _ r ⟨w.heap.size,0,none⟩ 1 1 [.slice y n z] rfl A (by
  intro u D;simp at D
  subst D;rfl) (by unfold maxLen;omega) (by omega) (aC hb b.size)
 have K:Below base w s:=(b.mono hb).grown C (aC hb b.size) fun k L=>(r.lt k L).1
 have t:∀p∈j++[(l,.slice y n z)],aX s base p.2 p.1:=by
  intro p d;have f:aX i base p.2 p.1:=by
   rcases List.mem_append.1 d with d | d
   ·exact (G p d).a b
   ·obtain rfl:p=(l,.slice y n z):=by simpa using d
    exact E.a b
  exact Mv f r (by decide) C
 rcases B.2 with ⟨_,f⟩ | ⟨g,cap,M,f,_⟩
 ·exact absurd f (by omega)
 ·subst f
  refine ⟨g,cap,s,J,⟨j++[(l,.slice y n z)],by simp [e], ?_,t⟩,K⟩;rw [List.map_append];simpa using B
abbrev Hd:=Nat × Nat × Nat × Nat
def Xa (h:Hd):Prop:=h.1<4294967296∧h.2.1<4294967296∧h.2.2.1<4294967296∧h.2.2.2<4294967296
def ja (n:Nat):ak:=[UInt8.ofNat (n % 256),UInt8.ofNat (n / 256 % 256)]
theorem Qs (n:Nat):(ja n).length=2:=rfl
def nU (h:Hd):ak:=dB h.1++(dB h.2.1++(dB h.2.2.1++dB h.2.2.2))
theorem zb (h:Hd):(nU h).length=16:=rfl
def Hl (rest:ak):ak:=rest.take 107++List.replicate (107 - rest.length) 0
def uK (h:Hd) (i m:Nat) (rest:ak):ak:=nU h++(ja i++(ja m++(UInt8.ofNat (min rest.length 107)::Hl rest)))
def mQ (n:Nat):Nat:=max 1 ((n+106) / 107)
def fZ (h:Hd) (r:ak):List (ak):=(List.range (mQ r.length)).map fun i=>uK h i (mQ r.length) (r.drop (107*i))
theorem BV (h:Hd) (r:ak):(fZ h r).length=mQ r.length:=by simp [fZ]
theorem RV (h:Hd) (r:ak) (i:Nat) (a:i<(fZ h r).length):(fZ h r)[i]=uK h i (mQ r.length) (r.drop (107*i)):=by simp [fZ]
theorem Qt (n:Nat):1<=mQ n:=by unfold mQ;omega
theorem qqi (n:Nat) (h:n<=16384):mQ n<=154:=by unfold mQ;omega
def dQ (h:Hd) (r:ak):Int:=if h.1=0∨h.2.1=0 then 2 else if 16384<r.length then 3 else 0
def l8 (h:Hd) (r:ak):List (ak):=if dQ h r=0 then fZ h r else []
theorem Qu {h:Hd} {r:ak} (a:h.1≠0) (b:h.2.1≠0) (c:r.length<=16384):dQ h r=0:=by
 unfold dQ;rw [if_neg (by rintro (e | e);exact a e;exact b e),if_neg (by omega)]
def dh (b:ak):Nat:=fH (b.take 4)
def mR (b:ak):Nat:=fH ((b.drop 4).take 4)
def ji (b:ak):Nat:=fH ((b.drop 8).take 4)
def qN (b:ak):Nat:=fH ((b.drop 12).take 4)
def cntF (b:ak):Nat:=fH ((b.drop 18).take 2)
def iT (b:ak):Nat:=(b.getD 20 0).toNat
def ze (b:ak):ak:=(b.drop 21).take (min (iT b) 107)
theorem Xn (l:ak):fH (l.take 4)<4294967296:=by
 have:=BH (l.take 4)
 have a:256 ^ (l.take 4).length<=256 ^ 4:=Nat.pow_le_pow_right (by decide) (by rw [List.length_take];omega);exact Nat.lt_of_lt_of_le this a
theorem Qv (b:ak):dh b<4294967296:=Xn _
theorem Qw (b:ak):ji b<4294967296:=Xn _
theorem qwu (b:ak):qN b<4294967296:=Xn _
theorem Qx (b:ak):cntF b<65536:=by
 have:=BH ((b.drop 18).take 2)
 have a:256 ^ ((b.drop 18).take 2).length<=256 ^ 2:=Nat.pow_le_pow_right (by decide) (by rw [List.length_take];omega);exact Nat.lt_of_lt_of_le this a
theorem qabv (h:Hd) (i m:Nat) (r:ak):iT (uK h i m r)=min r.length 107:=by
 have e:(uK h i m r).getD 20 0=UInt8.ofNat (min r.length 107):=by simp [uK,nU,dB,ja]
 unfold iT;rw [e,UInt8.toNat_ofNat'];omega
def rW (l:List (ak)):ak:=(l.map ze).flatten
theorem qyi (l:List (ak)) (b:ak):rW (l++[b])=rW l++ze b:=by simp [rW]
theorem qov (l:List (ak)) (k:Nat) (h:k<l.length):rW (l.take (k+1))=rW (l.take k)++ze l[k]:=by
 rw [List.take_succ_eq_append_getElem h,qyi]
theorem Qf (b:ak):(ze b).length<=107:=by unfold ze;rw [List.length_take];omega
theorem qms:∀l:List (ak),(rW l).length<=107*l.length
 | []=>by simp [rW]
 | b::l=>by
  have:=qms l
  have a:=Qf b;have e:rW (b::l)=ze b++rW l:=rfl;rw [e,List.length_append,List.length_cons];omega
abbrev Op:=ak × Nat × Nat
def gY (l:List (ak)):ak:=rW (l.take (cntF (l.headD [])))
def nV (g n p:Nat) (l:List (ak)):Bool:=
 decide (l≠[]∧cntF (l.headD [])<=l.length∧dQ (g,n,ji (l.headD []),p) (gY l)=0∧fZ (g,n,ji (l.headD []),p) (gY l)=l.take (cntF (l.headD [])))
def opn (g n p:Nat) (l:List (ak)):Op:=if nV g n p l then (gY l,ji (l.headD []),cntF (l.headD [])) else ([],0,0)
theorem Qy (g n p:Nat) (l:List (ak)):nV g n p l=true↔l≠[]∧cntF (l.headD [])<=l.length∧dQ (g,n,ji (l.headD []),p) (gY l)=0∧fZ (g,n,ji (l.headD []),p) (gY l)=l.take (cntF (l.headD [])):=by
 simp [nV]
theorem qL {g n p:Nat} {l:List (ak)} (h:nV g n p l=true):opn g n p l=(gY l,ji (l.headD []),cntF (l.headD [])):=by unfold opn;rw [if_pos h]
theorem MB {g n p:Nat} {l:List (ak)} (h:nV g n p l=false):opn g n p l=([],0,0):=by unfold opn;rw [h];rfl
theorem qaji {g n p:Nat} {l:List (ak)} (h:nV g n p l=true):cntF (l.headD [])=mQ (gY l).length∧1<=cntF (l.headD [])∧cntF (l.headD [])<=l.length:=by
 obtain ⟨c,a,d,b⟩:=(Qy g n p l).1 h;have:=congrArg List.length b
 rw [BV,List.length_take,Nat.min_eq_left a] at this;exact ⟨this.symm,by rw [<-this];exact Qt _,a⟩
theorem Xb (g n p:Nat) (l:List (ak)):(opn g n p l).2.2<=l.length:=by
 cases h:nV g n p l
 ·rw [MB h];exact Nat.zero_le _
 ·rw [qL h];exact (qaji h).2.2
theorem Xc (g n p:Nat) (l:List (ak)):(opn g n p l).2.1<4294967296:=by
 cases h:nV g n p l
 ·rw [MB h];show (0:Nat)<_;omega
 ·rw [qL h];exact Qw _
def zf (g:Nat):Nat->Nat->Nat->List (ak)->List Op
 | 0,_,_,_=>[]
 | f+1,n,p,l=>if (opn g n p l).2.2=0 then [] else opn g n p l::zf g f (n+1) (opn g n p l).2.1 (l.drop (opn g n p l).2.2)
def dF:List Op->Nat
 | []=>0
 | o::S=>o.2.2+dF S
def gB:Nat->List Op->Nat
 | p,[]=>p
 | _,o::S=>gB o.2.1 S
theorem MC (o:Op):∀S:List Op,dF (S++[o])=dF S+o.2.2
 | []=>by simp [dF]
 | a::S=>by simp only [List.cons_append,dF,MC o S];omega
theorem Qz (o:Op):∀(p:Nat) (S:List Op),gB p (S++[o])=o.2.1
 | _,[]=>rfl
 | _,a::S=>Qz o _ S
def fD (g:Nat) (l:List (ak)):List Op:=zf g (l.length+1) 1 0 l
theorem qsp (g:Nat):∀(f n p:Nat) (l:List (ak)),dF (zf g f n p l)<=l.length∧(zf g f n p l).length<=dF (zf g f n p l)
 | 0,_,_,_=>⟨Nat.zero_le _,Nat.le_refl _⟩
 | f+1,n,p,l=>by
  unfold zf;split
  ·exact ⟨Nat.zero_le _,Nat.le_refl _⟩
  ·rename_i h
   obtain ⟨a,b⟩:=qsp g f (n+1) (opn g n p l).2.1 (l.drop (opn g n p l).2.2);have c:=Xb g n p l;rw [List.length_drop] at a;simp only [dF,List.length_cons];omega
theorem qsq (g:Nat):∀(f n p:Nat) (l:List (ak)),p<4294967296->gB p (zf g f n p l)<4294967296
 | 0,_,_,_,h=>h
 | f+1,n,p,l,h=>by
  unfold zf;split
  ·exact h
  ·exact qsq g f _ _ _ (Xc g n p l)
def tq (g m:Nat) (b:ak):Nat:=if dh b=g then max m (max (ji b) (qN b)) else m
def oW (g:Nat) (l:List (ak)):Nat:=l.foldl (tq g) 0
def l9 (l:List (ak)):Nat:=l.foldl (fun m b=>max m (dh b)) 0
theorem qww (g:Nat):∀(l:List (ak)) (m:Nat),m<4294967296->l.foldl (tq g) m<4294967296
 | [],_,h=>h
 | a::l,m,h=>by
  refine qww g l _ ?_
  have:=Qw a
  have:=qwu a
  unfold tq;split<;>omega
theorem QA:∀(l:List (ak)) (m:Nat),m<4294967296->l.foldl (fun m b=>max m (dh b)) m<4294967296
 | [],_,h=>h
 | a::l,m,h=>QA l _ (by have:=Qv a;show max m (dh a)<_;omega)
theorem qyj {g f n p:Nat} {l:List (ak)} (h:(opn g n p l).2.2=0):zf g f n p l=[]:=by
 cases f with
 | zero=>rfl
 | succ f=>rw [zf,if_pos h]
theorem QB {w:World} {a:au} {n c:Nat} {l:ak} (h:Rd w (.slice a n c) l) (j:Nat) (f:j<l.length):∃g d,a=some ⟨g,d,none⟩∧w.cell? ⟨g,d+j,none⟩=some (.int .u8 (l[j]).toNat):=by
 rcases h with ⟨rfl,_⟩ | ⟨b,d,k,e,m,o,i⟩
 ·simp at f
 ·simp only [Value.slice.injEq] at e
  obtain ⟨rfl,rfl,rfl⟩:=e;exact ⟨b,d,rfl,i j f⟩
theorem qki (data l:ak) (o k m:Nat) (a:k<l.length) (b:k<m) (c:m<=l.length) (d:o+m<=data.length):(splice data o (l.take k)).set (o+k) l[k]=splice data o (l.take (k+1)):=by
 have:=qid data (l.take m) o k (by rw [List.length_take];omega) (by rw [List.length_take];omega)
 simp only [List.take_take,List.getElem_take,Nat.min_eq_left (show k<=m by omega),Nat.min_eq_left (show k+1<=m by omega)] at this;exact this
theorem qwx (x j:Nat) (m:Nat) (b:m=8*j) (h:j<4):∃a:UInt8,IntKind.u8.wrap ((x:Int) / 2 ^ m)=(a.toNat:Int)∧a=(dB x)[j]'(by rw [jP];exact h):=⟨_,qv4 x j m b h,rfl⟩
theorem ME (base g n c k m C:Nat) (l:ak) (x:Nat) (w:World) (a:aX w base (.slice (some ⟨g,0,none⟩) n c) l) (D:m<=4) (u:k+m<=l.length) (y:x<4294967296):
  Calls Tryz.prog 174 #[.slice (some ⟨g,k,none⟩) m C,.int .u32 x] w fun e w'=>e=.returned (.tuple #[])∧w.grownBy w' (some g)∧aX w' base (.slice (some ⟨g,0,none⟩) n c) (splice l k ((dB x).take m)):=by
 have h:=ag a;have p:=ag u;have L:=ag y;clear a u y;go_enter Tryz.func174,Tryz.ntmps174;go_wp2;go_loopw [7] (fun i wr=>∃j:Nat,j<=m∧i=.int .i64 j∧af (aX wr base (.slice (some ⟨g,0,none⟩) n c) (splice l k ((dB x).take j)))∧w.grownBy wr (some g)) (fun i _=>m - (intOf i).toNat)
 case atStart=>
  refine ⟨0,Nat.zero_le _,rfl, ?_,World.grownBy.refl _ _⟩;show aX _ _ _ _
  have e:splice l k ((dB x).take 0)=l:=by simp [splice]
  rw [e];exact h.o
 case round=>
  obtain ⟨j,M,rfl,f,b⟩:=hrel;by_cases r:j<m
  ·have z:(j:Int)<m:=by omega
   have d:j<4:=by omega
   obtain ⟨q,A,N,a2,a3⟩:=O6 d;obtain ⟨E,F,s⟩:=qwx x j q A d;clear A;have G:=f.o.fz (k+j);have H:=f.o.at (k+j) (by rw [length_splice];have:=p.o;omega;have:=p.o;simp [jP];omega);obtain ⟨t,B⟩:=f.o.stored (k+j) E;rw [s,qki _ _ _ _ m (by rw [jP];exact d) r (by rw [jP];exact D) p.o,<-s] at t;have I:=ag t;have J:=ag (nP b B);clear t B f b s;go_wp2;go_roundw
   case rel=>exact ⟨j+1,by omega,rfl,I,J.o⟩
   case measure=>simp only [intOf];omega
  ·have O:decide ((j:Int)<m)=false:=aA (by omega)
   obtain rfl:j=m:=by omega
   have K:=ag f.o;clear f;go_wp2;refine bodyPost_end (v:=.tuple #[]) ?_ rfl ⟨rfl,b,K.o⟩
   simp [results,Tryz.results174,go_sem]
theorem QC (a:au) (n c:Nat) (b:ak) (w:World) (d:Rd w (.slice a n c) b) (q:n=b.length) (hb:b.length<=4):
  Calls Tryz.prog 157 #[.slice a n c] w fun e w'=>e=.returned (.int .u32 (fH b))∧w'=w:=by
 have G:n<=4:=by omega
 have r:=ag q;have x:=ag d;clear d q;go_enter Tryz.func157,Tryz.ntmps157;go_wp2;go_loop [2,7] (fun t i=>∃j:Nat,j<=n∧i=.int .i64 j∧t=.int .u32 (fH (b.take j))) (fun _ i=>n - (intOf i).toNat)
 case atStart=>exact ⟨0,Nat.zero_le _,rfl,rfl⟩
 case round=>
  obtain ⟨j,H,rfl,rfl⟩:=hrel;by_cases l:j<n
  ·have s:(j:Int)<n:=by omega
   have f:j<4:=by omega
   obtain ⟨m,v,I,a2,a3⟩:=O6 f;have z:=ag v;clear v;have h:j<b.length:=by rw [<-r.o];exact l
   obtain ⟨g,A,rfl,B⟩:=QB x.o j h;obtain ⟨u,k⟩:∃u:Nat,u=fH (b.take j):=⟨_,rfl⟩;have C:=ag (show fH (b.take (j+1))=u+(b[j]).toNat*256 ^ j by rw [k];exact qvq b j h)
   have D:=ag (show u<256 ^ j by
    rw [k];have:=BH (b.take j);rwa [List.length_take,Nat.min_eq_left (by omega)] at this)
   rw [<-k];obtain ⟨y,p⟩:∃y:UInt8,y=b[j]:=⟨_,rfl⟩;rw [<-p] at B;have E:=ag p;clear k p;go_wp2
   go_round
   case rel=>exact ⟨j+1,by omega,rfl,by rw [C.o,<-O8 j m u _ z.o f D.o,<-E.o]⟩
   case measure=>simp only [intOf];omega
  ·have J:decide ((j:Int)<n)=false:=aA (by omega)
   have F:=ag (show b.take j=b by rw [List.take_of_length_le (by rw [<-r.o];omega)]);obtain rfl:j=n:=by omega
   go_wp2;go_ret;refine ⟨?_,rfl⟩;rw [F.o];rfl
theorem qyk (n:Nat) (w:World) (f:n<=1000000):
  Calls Tryz.prog 131 #[.int .i64 n] w fun e w'=>e=.returned (.int .i64 (mQ n))∧w'=w:=by
 have b:wrap64 ((n:Int)+107)=((n+107:Nat):Int):=by unfold wrap64;omega
 have c:wrap64 (((n+107:Nat):Int) - 1)=((n+106:Nat):Int):=by unfold wrap64;omega
 have d:((n+106:Nat):Int).tdiv 107=(((n+106) / 107:Nat):Int):=by rw [Int.tdiv_eq_ediv_of_nonneg (by omega)];omega
 have a:=ag (show ((mQ n:Nat):Int)=max 1 (((n+106) / 107:Nat):Int) by unfold mQ;omega);go_enter Tryz.func131,Tryz.ntmps131;clear b c d;go_wp2
 ·go_ret
  refine ⟨?_,rfl⟩;rw [a.o];show Ending.returned (.int .i64 _)=_
  congr 2
  omega
 ·go_ret
  refine ⟨?_,rfl⟩;rw [a.o];show Ending.returned (.int .i64 _)=_
  congr 2
  omega
theorem Xj (g a c:Nat) (b:ak) (w:World) (d:Rd w (.slice (some ⟨g,a,none⟩) 128 c) b) (hb:b.length=128):
  Calls Tryz.prog 128 #[.slice (some ⟨g,a,none⟩) 128 c] w fun e w'=>e=.returned (.int .i64 (cntF b))∧w'=w:=by
 obtain ⟨_,_,e, -,j,h⟩:=yK d 18 20 (by omega) (by omega);cases e;have k:=ag h;have i:=ag (show ((b.drop 18).take 2).length=2 by rw [List.length_take,List.length_drop];omega);obtain ⟨u,f⟩:=ai (cntF b);have l:u<65536:=by rw [f];exact Qx b
 have m:=ag (show fH ((b.drop 18).take 2)=u from f.symm);rw [<-f];have n:IntKind.i64.wrap (u:Int)=u:=by rw [IntKind.wrap_i64];omega
 clear d h f;have p:¬18=c:=by omega
 have q:(20:Int)<=c:=by omega
 have r:20<=c:=by omega
 go_enter Tryz.func128,Tryz.ntmps128;go_wp2_with fail
 refine (QC (some ⟨g,a+18,none⟩) 2 (c - 18) _ _ k.o i.o.symm (by rw [i.o];omega)).mono ?_
 rintro e s ⟨rfl,rfl⟩;rw [m.o];go_wp2;go_ret;exact ⟨rfl,rfl⟩
theorem Hm {w:World} {g a n c:Nat} {l:ak} (h:Rd w (.slice (some ⟨g,a,none⟩) n c) l) (k m:Nat) (q:k+m<=l.length) (f:k<l.length):Rd w (.slice (some ⟨g,a+k,none⟩) m (c - k)) ((l.drop k).take m):=by
 rcases h with ⟨rfl,_⟩ | ⟨b,o,r,e,s,t,i⟩
 ·simp at f
 ·simp only [Value.slice.injEq,Option.some.injEq,Addr.mk.injEq] at e
  obtain ⟨⟨rfl,rfl, -⟩,rfl,rfl⟩:=e;have d:((l.drop k).take m).length=m:=by rw [List.length_take,List.length_drop];omega
  refine .inr ⟨g,a+k,c - k,by rw [d],by omega,by omega,fun j p=>?_⟩;rw [d] at p;have:=i (k+j) (by omega)
  rw [Nat.add_assoc,this,List.getElem_take,List.getElem_drop]
theorem qajj (g a c:Nat) (b:ak) (w:World) (d:Rd w (.slice (some ⟨g,a,none⟩) 128 c) b) (hb:b.length=128):
  Calls Tryz.prog 129 #[.slice (some ⟨g,a,none⟩) 128 c] w fun e w'=>e=.returned (.slice (some ⟨g,a+21,none⟩) (min (iT b) 107) (c - 21))∧ah w w':=by
 obtain ⟨_,_,e, -,i,j⟩:=yK d 21 128 (by omega) (by omega);cases e;obtain ⟨_,_,e,k⟩:=QB d 20 (by omega);cases e;have f:(b[20]'(by omega)).toNat=iT b:=by unfold iT;rw [List.getD,List.getElem?_eq_getElem (by omega)];rfl
 rw [f] at k;have n:iT b<256:=by rw [<-f];exact UInt8.toNat_lt _
 generalize iT b=s at *;clear d j f hb;have o:¬21=c:=by omega
 have p:(128:Int)<=c:=by omega
 have q:128<=c:=by omega
 have r:IntKind.i64.wrap (s:Int)=s:=by rw [IntKind.wrap_i64];omega
 by_cases t:s<=107
 ·rw [Nat.min_eq_left (by omega)]
  have h:s<=c - 21:=by omega
  have l:¬107<(s:Int):=by omega
  go_enter Tryz.func129,Tryz.ntmps129;go_wp2;go_quiet (fail)
  go_wp2;go_ret;exact ⟨rfl,below_drewN aB _⟩
 ·rw [Nat.min_eq_right (by omega)]
  have m:107<(s:Int):=by omega
  have h:107<=c - 21:=by omega
  go_enter Tryz.func129,Tryz.ntmps129;go_wp2;go_quiet (fail)
  go_wp2;go_ret;exact ⟨rfl,below_drewN aB _⟩
def xY (b:ak):Value:=.agg #[.int .u32 (dh b),.int .u32 (mR b),.int .u32 (ji b),.int .u32 (qN b)]
def Ar (b:ak) (j:Nat):Array Value:=#[.int .u32 (if 0<j then (dh b:Int) else 0),.int .u32 (if 1<j then (mR b:Int) else 0),.int .u32 (if 2<j then (ji b:Int) else 0),.int .u32 (if 3<j then (qN b:Int) else 0)]
theorem Au {w:World} {B:Nat} {t:TypeId} {a b c d:Value} (h:w.heap[B]? =some (.cells #[a,b,c,d] t (0,0))):w.cell? ⟨B,0,none⟩=some a∧w.cell? ⟨B,1,none⟩=some b∧w.cell? ⟨B,2,none⟩=some c∧w.cell? ⟨B,3,none⟩=some d∧∀j,w.frozen? ⟨B,j,none⟩=false:=
 ⟨by simp [World.cell?,h],by simp [World.cell?,h],by simp [World.cell?,h],by simp [World.cell?,h],fun j=>frozen_of_row w _ j _ _ h⟩
theorem QD {w:World} {B:Nat} {t:TypeId} {a b c d:Value} (u1 u2 u3 u4:Value) (h:w.heap[B]? =some (.cells #[a,b,c,d] t (0,0))):
  ∃ws,(((w.setCell ⟨B,0,none⟩ u1).setCell ⟨B,1,none⟩ u2).setCell ⟨B,2,none⟩ u3).setCell ⟨B,3,none⟩ u4=ws∧ws.heap[B]? =some (.cells #[u1,u2,u3,u4] t (0,0))∧w.grownBy ws (some B):=
 ⟨_,rfl,heap_setCell_same _ _ 3 _ _ _ (heap_setCell_same _ _ 2 _ _ _ (heap_setCell_same _ _ 1 _ _ _ (heap_setCell_same _ _ 0 _ _ _ h))),nP (nP (nP (nO w _ _) (nO _ _ _)) (nO _ _ _)) (nO _ _ _)⟩
theorem qmt (g l c:Nat) (b:ak) (w:World) (t:Rd w (.slice (some ⟨g,l,none⟩) 128 c) b) (hb:b.length=128):
  Calls Tryz.prog 104 #[.slice (some ⟨g,l,none⟩) 128 c] w fun e w'=>e=.returned (xY b)∧ah w w':=by
 obtain ⟨_,_,e, -,P, -⟩:=yK t 0 128 (by omega) (by omega);cases e;have G:=ag t;have n:=ag hb;clear t hb;go_enter Tryz.func104,Tryz.ntmps104;go_wp2;go_loopw [4] (fun i wr=>∃j:Nat,j<=4∧i=.int .i64 j∧af (wr.heap[w.heap.size]? =some (.cells (Ar b j) 166 (0,0)))∧ah w wr) (fun i _=>4 - (intOf i).toNat)
 case atStart=>exact ⟨0,Nat.zero_le _,rfl,ag (heap_alloc_new w _),ae⟩
 case round=>
  obtain ⟨j,H,rfl,f,a⟩:=hrel;by_cases q:j<4
  ·obtain rfl | rfl | rfl | rfl:j=0∨j=1∨j=2∨j=3:=by omega
   ·have d:Rd wr (.slice (some ⟨g,l+0,none⟩) 4 (c - 0)) ((b.drop 0).take 4):=Hm (G.o.a a) 0 4 (by rw [n.o];omega) (by rw [n.o];omega)
    have u:=ag d;have p:=ag (show ((b.drop 0).take 4).length=4 by rw [List.length_take,List.length_drop,n.o];rfl);obtain ⟨I,J,K,L,s⟩:=Au f.o;have x:=s 0;have h:=heap_setCell_same wr w.heap.size 0 _ _ (.int .u32 (dh b)) f.o;have m:=ag (show (wr.setCell ⟨w.heap.size,0,none⟩ (.int .u32 (dh b))).heap[w.heap.size]? =some (.cells (Ar b 1) 166 (0,0)) from h);have y:=ag (show ah w (wr.setCell ⟨w.heap.size,0,none⟩ (.int .u32 (dh b))) from a.grown (nO wr _ _) a.size (fun k r=>by cases r;exact Nat.le_refl _));have z:=ag (show fH ((b.drop 0).take 4)=dh b from rfl);have A:¬0=c:=by omega
    have B:0<=c:=by omega
    have C:4<=c - 0:=by omega
    clear d h f a q H;go_wp2_with fail
    refine (QC (some ⟨g,l+0,none⟩) 4 (c - 0) _ _ u.o p.o.symm (by rw [p.o];omega)).mono ?_
    rintro e M ⟨rfl,rfl⟩;rw [z.o];go_wp2;go_roundw
    case rel=>exact ⟨1,by omega,rfl,m,y.o⟩
    case measure=>simp only [intOf];omega
   ·have d:Rd wr (.slice (some ⟨g,l+4,none⟩) 4 (c - 4)) ((b.drop 4).take 4):=Hm (G.o.a a) 4 4 (by rw [n.o];omega) (by rw [n.o];omega)
    have u:=ag d;have p:=ag (show ((b.drop 4).take 4).length=4 by rw [List.length_take,List.length_drop,n.o];rfl);obtain ⟨I,J,K,L,s⟩:=Au f.o;have x:=s 1;have h:=heap_setCell_same wr w.heap.size 1 _ _ (.int .u32 (mR b)) f.o;have m:=ag (show (wr.setCell ⟨w.heap.size,1,none⟩ (.int .u32 (mR b))).heap[w.heap.size]? =some (.cells (Ar b 2) 166 (0,0)) from h);have y:=ag (show ah w (wr.setCell ⟨w.heap.size,1,none⟩ (.int .u32 (mR b))) from a.grown (nO wr _ _) a.size (fun k r=>by cases r;exact Nat.le_refl _));have z:=ag (show fH ((b.drop 4).take 4)=mR b from rfl);have A:¬4=c:=by omega
    have B:4<=c:=by omega
    have C:4<=c - 4:=by omega
    clear d h f a q H;go_wp2_with fail
    refine (QC (some ⟨g,l+4,none⟩) 4 (c - 4) _ _ u.o p.o.symm (by rw [p.o];omega)).mono ?_
    rintro e M ⟨rfl,rfl⟩;rw [z.o];go_wp2;go_roundw
    case rel=>exact ⟨2,by omega,rfl,m,y.o⟩
    case measure=>simp only [intOf];omega
   ·have d:Rd wr (.slice (some ⟨g,l+8,none⟩) 4 (c - 8)) ((b.drop 8).take 4):=Hm (G.o.a a) 8 4 (by rw [n.o];omega) (by rw [n.o];omega)
    have u:=ag d;have p:=ag (show ((b.drop 8).take 4).length=4 by rw [List.length_take,List.length_drop,n.o];rfl);obtain ⟨I,J,K,L,s⟩:=Au f.o;have x:=s 2;have h:=heap_setCell_same wr w.heap.size 2 _ _ (.int .u32 (ji b)) f.o;have m:=ag (show (wr.setCell ⟨w.heap.size,2,none⟩ (.int .u32 (ji b))).heap[w.heap.size]? =some (.cells (Ar b 3) 166 (0,0)) from h);have y:=ag (show ah w (wr.setCell ⟨w.heap.size,2,none⟩ (.int .u32 (ji b))) from a.grown (nO wr _ _) a.size (fun k r=>by cases r;exact Nat.le_refl _));have z:=ag (show fH ((b.drop 8).take 4)=ji b from rfl);have A:¬8=c:=by omega
    have B:8<=c:=by omega
    have C:4<=c - 8:=by omega
    clear d h f a q H;go_wp2_with fail
    refine (QC (some ⟨g,l+8,none⟩) 4 (c - 8) _ _ u.o p.o.symm (by rw [p.o];omega)).mono ?_
    rintro e M ⟨rfl,rfl⟩;rw [z.o];go_wp2;go_roundw
    case rel=>exact ⟨3,by omega,rfl,m,y.o⟩
    case measure=>simp only [intOf];omega
   ·have d:Rd wr (.slice (some ⟨g,l+12,none⟩) 4 (c - 12)) ((b.drop 12).take 4):=Hm (G.o.a a) 12 4 (by rw [n.o];omega) (by rw [n.o];omega)
    have u:=ag d;have p:=ag (show ((b.drop 12).take 4).length=4 by rw [List.length_take,List.length_drop,n.o];rfl);obtain ⟨I,J,K,L,s⟩:=Au f.o;have x:=s 3;have h:=heap_setCell_same wr w.heap.size 3 _ _ (.int .u32 (qN b)) f.o;have m:=ag (show (wr.setCell ⟨w.heap.size,3,none⟩ (.int .u32 (qN b))).heap[w.heap.size]? =some (.cells (Ar b 4) 166 (0,0)) from h);have y:=ag (show ah w (wr.setCell ⟨w.heap.size,3,none⟩ (.int .u32 (qN b))) from a.grown (nO wr _ _) a.size (fun k r=>by cases r;exact Nat.le_refl _));have z:=ag (show fH ((b.drop 12).take 4)=qN b from rfl);have A:¬12=c:=by omega
    have B:12<=c:=by omega
    have C:4<=c - 12:=by omega
    clear d h f a q H;go_wp2_with fail
    refine (QC (some ⟨g,l+12,none⟩) 4 (c - 12) _ _ u.o p.o.symm (by rw [p.o];omega)).mono ?_
    rintro e M ⟨rfl,rfl⟩;rw [z.o];go_wp2;go_roundw
    case rel=>exact ⟨4,by omega,rfl,m,y.o⟩
    case measure=>simp only [intOf];omega
  ·have R:decide ((j:Int)<4)=false:=aA (by omega)
   obtain rfl:j=4:=by omega
   have D:wr.heap[w.heap.size]? =some (.cells #[.int .u32 (dh b),.int .u32 (mR b),.int .u32 (ji b),.int .u32 (qN b)] 166 (0,0)):=f.o
   obtain ⟨ws,O,E,F⟩:=QD (.int .u32 (dh b)) (.int .u32 (mR b)) (.int .u32 (ji b)) (.int .u32 (qN b)) D;obtain ⟨I,J,K,L,s⟩:=Au D;obtain ⟨S,T,U,V, -⟩:=Au E;have Q:=ag O;have N:ah w ws:=a.grown F a.size (fun k r=>by cases r;exact Nat.le_refl _);clear f E F O D;go_wp2;rw [Q.o];refine bodyPost_ret (v:=.agg #[.int .u32 (dh b),.int .u32 (mR b),.int .u32 (ji b),.int .u32 (qN b)]) ?_ rfl ⟨(rfl:Ending.returned (.agg #[.int .u32 (dh b),.int .u32 (mR b),.int .u32 (ji b),.int .u32 (qN b)])=.returned (xY b)),N⟩
   simp [results,Tryz.results104,go_sem, *]
end Go.Proofs.YthpammbgcidloaaGreat
