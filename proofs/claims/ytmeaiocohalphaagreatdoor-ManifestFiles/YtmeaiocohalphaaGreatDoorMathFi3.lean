/-
  Layer 5 in plain words: bytes that are read as a directory.
-/
import Derived.Test.YtmeaiocohalphaaGreatDoorMathFi
namespace Go.Proofs.YtmeaiocohalphaaGreatDoor
open Go.RowKit
set_option linter.all false
/-! ### counting blocks -/
def cntB (p:Int→Bool) (a:Int):Nat→Int
 | 0=>0
 | k+1=>cntB p a k+if p (a+k) then 1 else 0
theorem qo6 (p:Int→Bool) (a:Int):∀k:Nat,cntB p a k≤k
 | 0=>by simp [cntB]
 | k+1=>by
  have:=qo6 p a k
  simp only [cntB]
  split<;>omega
theorem qo7 {p q:Int→Bool} (a:Int):∀k:Nat,(∀i:Nat,i<k→p (a+i)=true→q (a+i)=false)→cntB (fun n=>p n || q n) a k=cntB p a k+cntB q a k
 | 0,_=>by simp [cntB]
 | k+1,h=>by
  have ih:=qo7 (p:=p) (q:=q) a k fun i hi=>h i (by omega)
  have hk:=h k (by omega)
  simp only [cntB,ih]
  show (cntB p a k+cntB q a k+if (p (a+k) || q (a+k))=true then (1:Int) else 0)=_
  obtain ⟨x,hx⟩:∃x,x=p (a+k):=⟨_,rfl⟩;obtain ⟨y,hy⟩:∃y,y=q (a+k):=⟨_,rfl⟩
  simp only [←hx,←hy] at hk ⊢
  clear h ih hx hy
  cases x<;>cases y<;>simp at hk ⊢<;>omega
theorem qv6 (x:Ex) (a:Int) (ha:a≤x.1) (hx:0≤x.2):∀k:Nat,cntB (inX x) a k=max 0 (min (k:Int) (x.1+x.2 - a) - (x.1 - a))
 | 0=>by simp [cntB];omega
 | k+1=>by
  have ih:=qv6 x a ha hx k
  simp only [cntB,ih,inX]
  by_cases h1:x.1≤a+k
  ·by_cases h2:a+(k:Int)<x.1+x.2
   ·simp only [h1,h2,decide_true,Bool.and_self,if_true];omega
   ·simp only [h1,h2,decide_true,decide_false,Bool.and_false];simp;omega
  ·simp only [h1,decide_false,Bool.false_and];simp;omega
theorem qh2 {a:Int} {k:Nat}:∀l:List Ex,(∀x∈l,a≤x.1∧1≤x.2∧x.1+x.2≤a+k)→apX l=true→qbj l=cntB (inL l) a k
 | l,h,hp=>by
  rcases List.eq_nil_or_concat l with rfl | ⟨r,x,rfl⟩
  ·have:∀k,cntB (inL []) a k=0:=by
    intro k
    induction k with
    | zero=>rfl
    | succ k ih=>simp only [cntB,ih];simp [inL]
   rw [this];rfl
  ·rw [List.concat_eq_append] at h hp ⊢
   rw [qgo,Bool.and_eq_true] at hp;have ih:=qh2 r (fun y hy=>h y (by simp [hy])) hp.1
   have e:inL (r++[x])=fun n=>inL r n || inX x n:=by funext n;exact qfd r x n
   have hx:=h x (by simp);rw [qgp,e,qo7,←ih,qv6 x a hx.1 (by omega)]
   ·omega
   ·intro i hi hl
    obtain ⟨y,hy,hyn⟩:=List.any_eq_true.1 hl
    have:=List.all_eq_true.1 hp.2 y hy
    cases hq:inX x (a+i) with
    | false=>rfl
    | true=>
     have hy1:=h y (by simp [hy]);have hm:=(qo0 (a:=x) (b:=y) (by omega) (by omega)).2 ⟨_,hq,hyn⟩
     simp [hm] at this
termination_by l=>l.length
decreasing_by subst_vars;simp [List.concat_eq_append]
/-! ### extents that may be -/
theorem extP_parts {l:List Ex} {b:Int}:extP l b↔(apX l=true∧allX l=0∧∀x∈l,34≤x.1∧x.1+x.2≤b):=by
 unfold extP
 constructor
 ·rintro ⟨h,k⟩
  obtain ⟨h1,h2⟩:=qi4 h;exact ⟨h2,h1,k⟩
 ·rintro ⟨h1,h2,h3⟩
  exact ⟨qhz h2 h1,h3⟩
theorem qdy {l:List Ex} {b:Int} (h:extP l b):∀x∈l,34≤x.1∧1≤x.2∧x.1+x.2≤b:=by
 intro x hx;obtain ⟨_,h2,h3⟩:=extP_parts.1 h
 have:=(qcp h2).2 x hx
 have:=h3 x hx
 omega
theorem qajz {l:List Ex} {b c:Int} (h:extP l b) (hbc:b≤c):extP l c:=⟨h.1,fun x hx=>by have:=h.2 x hx;omega⟩
theorem qaj0 {fs:List Fl} {b c:Int} (h:mayF fs b) (hbc:b≤c):mayF fs c:=⟨h.1,h.2.1,qajz h.2.2.1 hbc,h.2.2.2⟩
theorem qeq {fs:List Fl} {b:Int} (h:chkF fs b=0):blkP b∧mayF fs b:=by
 unfold chkF at h
 by_cases h1:blkP b
 ·rw [if_neg (by simpa using h1)] at h
  by_cases h2:mayF fs b
  ·exact ⟨h1,h2⟩
  ·rw [if_neg h2] at h;omega
 ·rw [if_pos h1] at h;omega
theorem qo8 {fs:List Fl} {b:Int} (h1:blkP b) (h2:mayF fs b):chkF fs b=0:=by
 unfold chkF;rw [if_neg (by simpa using h1),if_pos h2]
theorem qae9:blkP 4096:=⟨by omega,by omega⟩
theorem qkh {fs:List Fl} {b:Int} (h:chkF fs b=0):chkF fs 4096=0:=by
 obtain ⟨h1,h2⟩:=qeq h;exact qo8 qae9 (qaj0 h2 h1.2)
/-! ### FilesApart -/
theorem qki {a b:Int} {l:List Ex} {w:Int} (h:qco a b l w=0):qcd a b l=0∧1≤w∧∃r,cutX (qb2 a b l) w=some r∧qcb a b l w=r:=by
 by_cases h1:qcd a b l=0
 ·by_cases h2:w<1∨4096<w
  ·rw [(qeb h1 h2).1] at h;omega
  ·have h3:1≤w:=by omega
   have h4:w≤4096:=by omega
   cases hc:cutX (qb2 a b l) w with
   | none=>rw [(qm8 h1 h3 h4 hc).1] at h;omega
   | some r=>exact ⟨h1,h3,r,rfl,(qm7 h1 h3 h4 hc).2⟩
 ·rw [(qi7 h1).1] at h;exact absurd h h1
/-! ### FilesFind -/
theorem qer (fs:List Fl) (s:List UInt8):isF fs s=true↔∃l,(s,l)∈fs:=by
 unfold isF;rw [List.any_eq_true]
 constructor
 ·rintro ⟨f,hf,e⟩
  obtain ⟨f1,f2⟩:=f
  have e:f1=s:=by simpa using e
  subst e;exact ⟨f2,hf⟩
 ·rintro ⟨l,hl⟩
  exact ⟨_,hl,by simp⟩
theorem qaai {fs:List Fl} {s:List UInt8} (h:isF fs s=false):∀f∈fs,f.1≠s:=by
 intro f hf e
 have:isF fs s=true:=(qer fs s).2 ⟨f.2,by rw [←e];exact hf⟩
 rw [h] at this;cases this
theorem qh3 {fs:List Fl} (hr:qcg fs) {s:List UInt8} {l:List Ex} (h:(s,l)∈fs):getF fs s=l:=by
 obtain ⟨t,ht,e⟩:=List.mem_iff_getElem.1 h;rw [qo5 hr ht (by rw [e]),e]
theorem qo9 {fs:List Fl} (hr:qcg fs) {s:List UInt8} (h:isF fs s=true):(s,getF fs s)∈fs:=by
 obtain ⟨l,hl⟩:=(qer fs s).1 h
 rw [qh3 hr hl];exact hl
theorem qpa (fs:List Fl) (f:Fl):(insF fs f).Perm (f::fs):=by
 unfold insF
 refine List.perm_middle.trans ?_
 rw [List.take_append_drop]
theorem ins_mem {fs:List Fl} {f g:Fl}:g∈insF fs f↔g=f∨g∈fs:=by
 rw [(qpa fs f).mem_iff,List.mem_cons]
theorem qpb (fs:List Fl) (f:Fl):(insF fs f).length=fs.length+1:=by rw [(qpa fs f).length_eq,List.length_cons]
theorem qv7 {fs:List Fl} (hr:qcg fs) {f:Fl} (h:isF fs f.1=false):qcg (insF fs f):=by
 have hlt:=qo4 hr f.1;have hne:=qaai h;have e:fs=fs.take (posF fs f.1)++fs.drop (posF fs f.1):=(List.take_append_drop _ fs).symm;have hr':=hr;rw [e] at hr';unfold qcg at hr';rw [List.pairwise_append] at hr';unfold qcg insF;rw [List.pairwise_append,List.pairwise_cons]
 have hb:∀a∈fs.take (posF fs f.1),ltN a.1 f.1=true:=by
  intro a ha;obtain ⟨t,ht,rfl⟩:=List.mem_iff_getElem.1 ha;rw [List.length_take] at ht;rw [List.getElem_take];exact (hlt t (by omega)).1 (by omega)
 refine ⟨hr'.1,⟨?_,hr'.2.1⟩, ?_⟩
 ·intro g hg
  obtain ⟨t,ht,rfl⟩:=List.mem_iff_getElem.1 hg;rw [List.length_drop] at ht;rw [List.getElem_drop];refine qf0 _ _ ((hlt _ (by omega)).2 (by omega)) (hne _ (List.getElem_mem _))
 ·intro a ha g hg
  rcases List.mem_cons.1 hg with rfl | hg
  ·exact hb a ha
  ·exact hr'.2.2 a ha g hg
theorem qrb {fs gs:List Fl} (h:fs.Perm gs):(qan fs).Perm (qan gs):=List.Perm.flatMap_right _ h
theorem qaaj (l:List Ex):apX l=true↔l.Pairwise fun x y=>qdx x y=false:=by
 induction hn:l.length generalizing l with
 | zero=>
  obtain rfl:=List.eq_nil_of_length_eq_zero hn
  simp [apX]
 | succ n ih=>
  rcases List.eq_nil_or_concat l with rfl | ⟨r,x,rfl⟩
  ·simp at hn
  ·rw [List.concat_eq_append] at hn ⊢
   rw [qgo,List.pairwise_append,Bool.and_eq_true,ih r (by simpa using hn),List.all_eq_true]
   simp only [List.pairwise_cons,List.not_mem_nil,false_implies,implies_true,List.Pairwise.nil,and_self,true_and,List.mem_singleton,forall_eq]
   refine and_congr_right fun _=>forall_congr' fun y=>forall_congr' fun _=>?_
   rw [qm4 x y]
   cases qdx y x<;>simp
theorem qafa {l m:List Ex} (h:l.Perm m) (hl:apX l=true):apX m=true:=by
 rw [qaaj] at hl ⊢;exact (h.pairwise_iff (fun {a b} hab=>by rw [qm4];exact hab)).1 hl
theorem qk5 {l m:List Ex} {b:Int} (h:l.Perm m) (hl:extP l b):extP m b:=by
 obtain ⟨h1,h2,h3⟩:=extP_parts.1 hl;refine extP_parts.2 ⟨qafa h h1, ?_,fun x hx=>h3 x (h.mem_iff.2 hx)⟩;obtain ⟨k1,k2⟩:=qcp h2
 exact qk1 (by rw [←h.length_eq];exact k1) fun x hx=>k2 x (h.mem_iff.2 hx)
theorem qv8 {l m:List Ex} {b:Int} (h:l.Sublist m) (hm:extP m b):extP l b:=by
 obtain ⟨h1,h2,h3⟩:=extP_parts.1 hm;obtain ⟨k1,k2⟩:=qcp h2;refine extP_parts.2 ⟨?_,qk1 (Nat.le_trans h.length_le k1) fun x hx=>k2 x (h.subset hx),fun x hx=>h3 x (h.subset hx)⟩;rw [qaaj] at h1 ⊢;exact h1.sublist h
theorem qpc {fs gs:List Fl} (h:fs.Sublist gs):(qan fs).Sublist (qan gs):=by
 unfold qan
 induction h with
 | slnil=>exact List.Sublist.refl _
 | cons a _ ih=>rw [List.flatMap_cons];exact ih.trans (List.sublist_append_right _ _)
 | cons_cons a _ ih=>rw [List.flatMap_cons,List.flatMap_cons];exact (List.Sublist.refl _).append ih
theorem qdm (fs:List Fl) (s:List UInt8):(delF fs s).Sublist fs:=List.filter_sublist
theorem qaak (fs:List Fl) (s:List UInt8):isF (delF fs s) s=false:=by
 unfold isF delF;rw [List.any_eq_false];intro f hf
 have:=(List.mem_filter.1 hf).2
 simpa using this
theorem qaj1 {fs gs:List Fl} (h:fs.Sublist gs) {s:List UInt8} (hg:isF gs s=false):isF fs s=false:=by
 cases e:isF fs s with
 | false=>rfl
 | true=>
  obtain ⟨l,hl⟩:=(qer _ _).1 e
  have:=(qer gs s).2 ⟨l,h.subset hl⟩
  rw [hg] at this;cases this
def qaal (fs:List Fl) (x y:List UInt8):List Fl:=fs.filter fun f=>!(f.1==x) && !(f.1==y)
theorem qafb {fs:List Fl} {f:Fl} {x y:List UInt8} (h:f.1=x∨f.1=y):qaal (insF fs f) x y=qaal fs x y:=by
 unfold qaal insF;rw [List.filter_append,List.filter_cons_of_neg (by rcases h with h | h<;>simp [h]),←List.filter_append,List.take_append_drop]
theorem qaam {fs:List Fl} (h:fitE fs=0):(bytF fs).length≤2048:=by
 unfold fitE at h
 split at h
 ·assumption
 ·omega
theorem qgs {fs:List Fl} {s:List UInt8} {l:List Ex} {b:Int} (h:qao fs s l b=0):chkF fs b=0∧qbm s=true∧isF fs s=false∧l≠[]∧extP (qan fs++l) b∧fs.length≠40∧l.length≤64∧(bytF (insF fs (s,l))).length≤2048:=by
 unfold qao at h
 by_cases h1:chkF fs b=0
 ·rw [if_neg (by simpa using h1)] at h
  cases h2:qbm s with
  | false=>rw [if_pos h2] at h;omega
  | true=>
   rw [if_neg (by simp [h2])] at h
   cases h3:isF fs s with
   | true=>rw [if_pos h3] at h;omega
   | false=>
    rw [if_neg (by simp [h3])] at h
    by_cases h4:l=[]∨¬extP (qan fs++l) b
    ·rw [if_pos h4] at h;omega
    ·rw [if_neg h4] at h
     by_cases h5:fs.length=40∨64<l.length
     ·rw [if_pos h5] at h;omega
     ·rw [if_neg h5] at h
      refine ⟨h1,rfl,rfl,fun e=>h4 (.inl e), ?_,fun e=>h5 (.inl e),by omega,qaam h⟩
      by_cases h6:extP (qan fs++l) b
      ·exact h6
      ·exact absurd (.inr h6) h4
 ·rw [if_pos h1] at h;exact absurd h h1
theorem qpd (fs:List Fl) (f:Fl):(qan (insF fs f)).Perm (qan fs++f.2):=by
 refine (qrb (qpa fs f)).trans ?_
 unfold qan;rw [List.flatMap_cons];exact List.perm_append_comm
theorem qk6 {fs:List Fl} {s:List UInt8} {l:List Ex} {b:Int} (h:qao fs s l b=0):mayF (insF fs (s,l)) b:=by
 obtain ⟨h1,h2,h3,h4,h5,h6,h7,h8⟩:=qgs h;obtain ⟨g1,g2⟩:=qeq h1;refine ⟨?_,⟨?_,qv7 g2.2.1.2 h3⟩,qk5 (qpd fs (s,l)).symm h5,h8⟩
 ·rw [qpb];have:=g2.1;omega
 ·intro f hf
  rcases ins_mem.1 hf with rfl | hf
  ·simp only [oneF,Bool.and_eq_true,decide_eq_true_eq]
   refine ⟨⟨h2, ?_⟩,h7⟩
   cases l with
   | nil=>exact absurd rfl h4
   | cons _ _=>simp
  ·exact g2.2.1.1 f hf
theorem qk7 {fs:List Fl} {s:List UInt8} {b:Int} (h:chkF fs b=0) (h1:qbm s=true) (h2:isF fs s=true):qaw fs s=0∧qdq fs s=(s,getF fs s):=by
 have e:qaw fs s=0:=by
  unfold qaw;rw [if_neg (by simpa using qkh h),if_neg (by simp [h1]),if_pos h2]
 exact ⟨e,by unfold qdq;rw [if_pos e]⟩
theorem qnb {fs:List Fl} {s:List UInt8} {b:Int} (h:chkF fs b=0) (h1:qbm s=true) (h2:isF fs s=false):qaw fs s=6:=by
 unfold qaw;rw [if_neg (by simpa using qkh h),if_neg (by simp [h1]),if_neg (by simp [h2])]
theorem qnc {fs:List Fl} {s:List UInt8} (h:qaw fs s=0):chkF fs 4096=0∧qbm s=true∧isF fs s=true:=by
 unfold qaw at h
 by_cases h1:chkF fs 4096=0
 ·rw [if_neg (by simpa using h1)] at h
  cases h2:qbm s with
  | false=>rw [if_pos h2] at h;omega
  | true=>
   rw [if_neg (by simp [h2])] at h
   cases h3:isF fs s with
   | true=>exact ⟨h1,rfl,rfl⟩
   | false=>rw [if_neg (by simp [h3])] at h;omega
 ·rw [if_pos h1] at h;exact absurd h h1
theorem qk8 {fs:List Fl} {s t:List UInt8} (h:qa0 fs s t=0):chkF fs 4096=0∧qbm s=true∧qbm t=true∧isF fs s=true∧(bytF (renF fs s t)).length≤2048:=by
 unfold qa0 at h
 by_cases h1:chkF fs 4096=0
 ·rw [if_neg (by simpa using h1)] at h
  by_cases h2:qbm s=false∨qbm t=false
  ·rw [if_pos h2] at h;omega
  ·rw [if_neg h2] at h
   cases h3:isF fs s with
   | false=>rw [if_neg (by simp [h3])] at h;omega
   | true=>
    rw [if_pos h3] at h
    simp at h2
    exact ⟨h1,h2.1,h2.2,rfl,qaam h⟩
 ·rw [if_pos h1] at h;exact absurd h h1
theorem qt8 {fs:List Fl} {s:List UInt8} {l:List Ex} {b:Int} (h:qao fs s l b=0):
  qaw fs s=6∧chkF (insF fs (s,l)) b=0∧qaw (insF fs (s,l)) s=0∧qdq (insF fs (s,l)) s=(s,l)∧qaal (insF fs (s,l)) s s=qaal fs s s∧(insF fs (s,l)).length=fs.length+1:=by
 obtain ⟨h1,h2,h3,h4,h5,h6,h7,h8⟩:=qgs h;obtain ⟨g1,g2⟩:=qeq h1;have hm:=qk6 h;have hc:=qo8 g1 hm;have hin:(s,l)∈insF fs (s,l):=ins_mem.2 (.inl rfl);obtain ⟨t1,t2⟩:=qk7 hc h2 ((qer _ _).2 ⟨l,hin⟩);rw [qh3 hm.2.1.2 hin] at t2;exact ⟨qnb h1 h2 h3,hc,t1,t2,qafb (.inl rfl),qpb _ _⟩
theorem qafc {fs:List Fl} (hr:qcg fs) {s:List UInt8} (h:isF fs s=true):fs.Perm ((s,getF fs s)::delF fs s):=by
 induction fs with
 | nil=>simp [isF] at h
 | cons f r ih=>
  have hr':qcg r:=(List.pairwise_cons.1 hr).2;have hf:=(List.pairwise_cons.1 hr).1
  by_cases e:f.1=s
  ·have hg:getF (f::r) s=f.2:=qh3 hr (by subst e;exact List.mem_cons_self ..)
   have hd:delF (f::r) s=r:=by
    unfold delF;rw [List.filter_cons_of_neg (by simp [e])];rw [List.filter_eq_self];intro g hg
    have:=qv4 (hf g hg)
    rw [e] at this
    simp [Ne.symm this]
   rw [hg,hd];subst e;exact List.Perm.refl _
  ·have h':isF r s=true:=by
    unfold isF at h ⊢;rw [List.any_cons] at h
    simpa [e] using h
   have hg:getF (f::r) s=getF r s:=by
    have:=qo9 hr' h'
    exact qh3 hr (List.mem_cons_of_mem _ this)
   have hd:delF (f::r) s=f::delF r s:=by
    unfold delF;rw [List.filter_cons_of_pos (by simp [e])]
   rw [hg,hd];exact ((ih hr' h').cons f).trans (List.Perm.swap _ _ _)
theorem qt9 {fs:List Fl} {s t:List UInt8} {b:Int} (hb:mayF fs b) (h:qa0 fs s t=0):mayF (renF fs s t) b:=by
 obtain ⟨h1,h2,h3,h4,h5⟩:=qk8 h;have hr:=hb.2.1.2;have hp:=qafc hr h4;have hsub:(delF (delF fs s) t).Sublist (delF fs s):=qdm _ _;refine ⟨?_,⟨?_,qv7 (qex (qex hr s) t) (qaak _ _)⟩, ?_,h5⟩
 ·unfold renF
  rw [qpb];have e1:=hp.length_eq;rw [List.length_cons] at e1;have e2:=hsub.length_le
  have:=hb.1
  omega
 ·intro f hf
  rcases ins_mem.1 hf with rfl | hf
  ·have:=hb.2.1.1 _ (qo9 hr h4)
   simp only [oneF,Bool.and_eq_true] at this ⊢
   exact ⟨⟨h3,this.1.2⟩,this.2⟩
  ·exact hb.2.1.1 f ((qdm fs s).subset (hsub.subset hf))
 ·have e1:=qpd (delF (delF fs s) t) (t,getF fs s)
  have e2:(qan fs).Perm (qan (delF fs s)++getF fs s):=(qrb hp).trans (by unfold qan;rw [List.flatMap_cons];exact List.perm_append_comm);have e3:=qk5 e2 hb.2.2.1;exact qk5 e1.symm (qv8 ((qpc hsub).append (List.Sublist.refl _)) e3)
theorem qaiq {fs:List Fl} (h:∀f∈fs,∀x∈f.2,wfX x) {f:Fl} (hf:∀x∈f.2,wfX x):∀g∈insF fs f,∀x∈g.2,wfX x:=by
 intro g hg
 rcases ins_mem.1 hg with rfl | hg
 ·exact hf
 ·exact h g hg
theorem qair {fs:List Fl} (h:∀f∈fs,∀x∈f.2,wfX x) (s:List UInt8):∀g∈delF fs s,∀x∈g.2,wfX x:=fun g hg=>h g ((qdm fs s).subset hg)
theorem wf_ren {fs:List Fl} (h:∀f∈fs,∀x∈f.2,wfX x) (s t:List UInt8):∀g∈renF fs s t,∀x∈g.2,wfX x:=by
 refine qaiq (qair (qair h s) t) ?_
 show ∀x∈getF fs s,wfX x
 unfold getF;intro x hx
 cases e:fs.find? (fun f=>f.1==s) with
 | none=>rw [e] at hx;simp at hx
 | some f=>rw [e] at hx;exact h f (List.mem_of_find?_eq_some e) x (by simpa using hx)
theorem qv9:∀(l:List UInt8) (i acc n k:Nat),i≤9→rdGo l i acc=some (n,k)→∃m,n=acc+m*128 ^ i∧i<k∧k - i≤l.length∧l.take (k - i)=sm m∧(0<i→0<m)
 | [],i,acc,n,k,_,h=>by simp [rdGo] at h
 | c::r,i,acc,n,k,hi,h=>by
  have hc:c.toNat<256:=c.toNat_lt;unfold rdGo at h
  by_cases h1:i=9∧1<c.toNat
  ·rw [if_pos h1] at h;cases h
  ·rw [if_neg h1] at h
   by_cases h2:128≤c.toNat
   ·rw [if_pos h2] at h
    obtain ⟨m,e1,e2,e3,e4,e5⟩:=qv9 r (i+1) _ n k (by omega) h;have hm:0<m:=e5 (by omega);refine ⟨c.toNat % 128+128*m, ?_,by omega,by rw [List.length_cons];omega, ?_,fun _=>by omega⟩
    ·rw [e1,Nat.pow_succ,Nat.add_mul,Nat.mul_comm 128 m,Nat.mul_assoc m 128,Nat.mul_comm 128 (128 ^ i)]
     omega
    ·rw [show k - i=(k - (i+1))+1 by omega,List.take_succ_cons,e4,qyi (by omega:128≤c.toNat % 128+128*m)]
     have a1:(c.toNat % 128+128*m) % 128+128=c.toNat:=by omega
     have a2:(c.toNat % 128+128*m) / 128=m:=by omega
     rw [a1,a2]
     congr 1
     exact (UInt8.ofNat_toNat).symm
   ·rw [if_neg h2] at h
    by_cases h3:c.toNat=0∧0<i
    ·rw [if_pos h3] at h;cases h
    ·rw [if_neg h3] at h
     injection h with h
     injection h with e1 e2
     refine ⟨c.toNat,e1.symm,by omega,by rw [List.length_cons];omega, ?_,fun hi=>by omega⟩;rw [show k - i=1 by omega,qmz (by omega:c.toNat<128)]
     simp
theorem qaan {l:List UInt8} {n k:Nat} (h:rd l=some (n,k)):l=sm n++l.drop k∧k=(sm n).length:=by
 obtain ⟨m,e1,e2,e3,e4,_⟩:=qv9 l 0 0 n k (by omega) h
 have hm:n=m:=by simpa using e1
 subst hm;rw [Nat.sub_zero] at e3 e4
 have hk:k=(sm n).length:=by rw [←e4,List.length_take];omega
 exact ⟨by rw [←e4,List.take_append_drop],hk⟩
def cnum (l:List UInt8):Option (Nat × List UInt8):=match rd l with
 | none=>none
 | some (n,k)=>if n≤4096 then some (n,l.drop k) else none
theorem qpe (n:Nat) (h:n≤4096) (r:List UInt8):cnum (sm n++r)=some (n,r):=by
 unfold cnum;rw [qajx n (by omega)]
 simp [h]
theorem qfe {l r:List UInt8} {n:Nat} (h:cnum l=some (n,r)):n≤4096∧l=sm n++r:=by
 unfold cnum at h
 cases e:rd l with
 | none=>rw [e] at h;cases h
 | some p=>
  obtain ⟨m,k⟩:=p;rw [e] at h
  simp only at h
  by_cases hm:m≤4096
  ·rw [if_pos hm] at h
   injection h with h
   injection h with e1 e2
   subst e1 e2;exact ⟨hm,(qaan e).1⟩
  ·rw [if_neg hm] at h;cases h
theorem qafd {l r:List UInt8} {n:Nat} (h:cnum l=some (n,r)):r.length<l.length:=by
 have:=(qfe h).2
 have h1:=qvx n
 rw [this,List.length_append];omega
def cext (l:List UInt8):Option (Ex × List UInt8):=match cnum l with
 | none=>none
 | some (x,r)=>match cnum r with
  | none=>none
  | some (y,q)=>some (((x:Int),(y:Int)),q)
def smX (x:Ex):Prop:=0≤x.1∧x.1≤4096∧0≤x.2∧x.2≤4096
theorem qafe {x:Ex} (h:smX x) (r:List UInt8):cext (bytX x++r)=some (x,r):=by
 obtain ⟨a,b⟩:=x;obtain ⟨h1,h2,h3,h4⟩:=h
 simp only at h1 h2 h3 h4
 unfold cext bytX;rw [List.append_assoc,qpe _ (by simp only;omega)]
 simp only
 rw [qpe _ (by omega)]
 simp only [Option.some.injEq,Prod.mk.injEq,and_true]
 omega
theorem qaff {l r:List UInt8} {x:Ex} (h:cext l=some (x,r)):smX x∧l=bytX x++r:=by
 unfold cext at h
 cases e:cnum l with
 | none=>rw [e] at h;cases h
 | some p=>
  obtain ⟨m,q⟩:=p;rw [e] at h
  simp only at h
  cases e2:cnum q with
  | none=>rw [e2] at h;cases h
  | some p=>
   obtain ⟨m2,q2⟩:=p;rw [e2] at h
   simp only at h
   injection h with h
   injection h with h1 h2
   subst h1 h2;obtain ⟨a1,a2⟩:=qfe e;obtain ⟨b1,b2⟩:=qfe e2;refine ⟨⟨by simp,by simp only;omega,by simp,by simp only;omega⟩, ?_⟩;unfold bytX
   simp only [Int.toNat_natCast]
   rw [a2,List.append_assoc,←b2]
def qff:Nat→List UInt8→Option (List Ex × List UInt8)
 | 0,l=>some ([],l)
 | n+1,l=>match qff n l with
  | none=>none
  | some (es,r)=>match cext r with
   | none=>none
   | some (x,q)=>some (es++[x],q)
theorem qrc:∀(es:List Ex) (r:List UInt8),(∀x∈es,smX x)→qff es.length (bytE es++r)=some (es,r)
 | es,r,h=>by
  rcases List.eq_nil_or_concat es with rfl | ⟨q,x,rfl⟩
  ·rfl
  ·rw [List.concat_eq_append] at h ⊢
   have ih:=qrc q (bytX x++r) (fun y hy=>h y (by simp [hy]))
   have e:bytE (q++[x])++r=bytE q++(bytX x++r):=by unfold bytE;rw [List.flatMap_append];simp
   rw [List.length_append,e]
   show (match qff q.length (bytE q++(bytX x++r)) with
    | none=>none
    | some (es,r)=>match cext r with
     | none=>none
     | some (x,q)=>some (es++[x],q))=_
   rw [ih]
   simp only
   rw [qafe (h x (by simp))]
termination_by es=>es.length
decreasing_by subst_vars;simp [List.concat_eq_append]
theorem qk9:∀(n:Nat) (l r:List UInt8) (es:List Ex),qff n l=some (es,r)→es.length=n∧(∀x∈es,smX x)∧l=bytE es++r
 | 0,l,r,es,h=>by
  injection h with h
  injection h with h1 h2
  subst h1 h2;exact ⟨rfl,by simp,by simp [bytE]⟩
 | n+1,l,r,es,h=>by
  unfold qff at h
  cases e:qff n l with
  | none=>rw [e] at h;cases h
  | some p=>
   obtain ⟨es',q⟩:=p;rw [e] at h
   simp only at h
   cases e2:cext q with
   | none=>rw [e2] at h;cases h
   | some p=>
    obtain ⟨x,z⟩:=p;rw [e2] at h
    simp only at h
    injection h with h
    injection h with h1 h2
    subst h1 h2;obtain ⟨a1,a2,a3⟩:=qk9 n l q es' e;obtain ⟨b1,b2⟩:=qaff e2;refine ⟨by simp [a1], ?_, ?_⟩
    ·intro y hy
     rcases List.mem_append.1 hy with hy | hy
     ·exact a2 y hy
     ·obtain rfl:y=x:=by simpa using hy
      exact b1
    ·unfold bytE at a3 ⊢
     rw [List.flatMap_append,a3,b2]
     simp
theorem qnd {k:Nat} {l:List UInt8} (h:qff k l=none):∀n,k≤n→qff n l=none
 | 0,hn=>by
  obtain rfl:k=0:=by omega
  exact h
 | n+1,hn=>by
  by_cases e:k=n+1
  ·subst e;exact h
  ·unfold qff;rw [qnd h n (by omega)]
theorem qaao {k:Nat} {l r:List UInt8} {es:List Ex} (h:qff k l=some (es,r)) (h2:cext r=none) {n:Nat} (hn:k<n):qff n l=none:=by
 refine qnd (k:=k+1) ?_ n hn
 unfold qff;rw [h];simp only;rw [h2]
theorem qym {k:Nat} {l r q:List UInt8} {es:List Ex} {x:Ex} (h:qff k l=some (es,r)) (h2:cext r=some (x,q)):qff (k+1) l=some (es++[x],q):=by
 unfold qff;rw [h];simp only;rw [h2]
def qfg (l:List UInt8):Option (Fl × List UInt8):=match ct l with
 | none=>none
 | some (s,r)=>match cnum r with
  | none=>none
  | some (n,q)=>match qff n q with
   | none=>none
   | some (es,z)=>some ((s,es),z)
theorem qne {l s r:List UInt8} (h:ct l=some (s,r)):l=tx s++r:=by
 cases e:rd l with
 | none=>rw [qo2 e] at h;cases h
 | some p=>
  obtain ⟨n,k⟩:=p
  by_cases hn:n≤l.length - k
  ·rw [qi8 e hn] at h
   injection h with h
   injection h with h1 h2
   subst h1 h2;obtain ⟨a1,a2⟩:=qaan e
   have hl:((l.drop k).take n).length=n:=by rw [List.length_take,List.length_drop];omega
   unfold tx;rw [hl,List.append_assoc,←List.drop_drop,List.take_append_drop];exact a1
  ·rw [qo3 e hn] at h;cases h
def smF5 (f:Fl):Prop:=f.1.length≤1000000∧f.2.length≤4096∧∀x∈f.2,smX x
theorem qaap {f:Fl} (h:smF5 f) (r:List UInt8):qfg (qcf f++r)=some (f,r):=by
 obtain ⟨s,es⟩:=f;obtain ⟨h1,h2,h3⟩:=h
 simp only at h1 h2 h3
 unfold qfg qcf
 simp only
 rw [List.append_assoc,ct_tx s _ (by omega)]
 simp only
 rw [List.append_assoc,qpe _ h2]
 simp only
 rw [qrc es r h3]
theorem qaaq {l r:List UInt8} {f:Fl} (h:qfg l=some (f,r)):f.2.length≤4096∧(∀x∈f.2,smX x)∧l=qcf f++r:=by
 unfold qfg at h
 cases e:ct l with
 | none=>rw [e] at h;cases h
 | some p=>
  obtain ⟨s,q⟩:=p;rw [e] at h
  simp only at h
  cases e2:cnum q with
  | none=>rw [e2] at h;cases h
  | some p=>
   obtain ⟨n,q2⟩:=p;rw [e2] at h
   simp only at h
   cases e3:qff n q2 with
   | none=>rw [e3] at h;cases h
   | some p=>
    obtain ⟨es,z⟩:=p;rw [e3] at h
    simp only at h
    injection h with h
    injection h with h1 h2
    subst h1 h2;obtain ⟨a1,a2,a3⟩:=qk9 _ _ _ _ e3;obtain ⟨b1,b2⟩:=qfe e2;refine ⟨by simp only;omega,a2, ?_⟩;unfold qcf
    simp only
    rw [qne e,b2,a3,a1]
    simp
def qfu:Nat→List UInt8→Option (List Fl × List UInt8)
 | 0,l=>some ([],l)
 | n+1,l=>match qfu n l with
  | none=>none
  | some (fs,r)=>match qfg r with
   | none=>none
   | some (f,q)=>some (fs++[f],q)
theorem qrd:∀(fs:List Fl) (r:List UInt8),(∀f∈fs,smF5 f)→qfu fs.length (fs.flatMap qcf++r)=some (fs,r)
 | fs,r,h=>by
  rcases List.eq_nil_or_concat fs with rfl | ⟨q,x,rfl⟩
  ·rfl
  ·rw [List.concat_eq_append] at h ⊢
   have ih:=qrd q (qcf x++r) (fun y hy=>h y (by simp [hy]))
   have e:(q++[x]).flatMap qcf++r=q.flatMap qcf++(qcf x++r):=by rw [List.flatMap_append];simp
   rw [List.length_append,e]
   show (match qfu q.length (q.flatMap qcf++(qcf x++r)) with
    | none=>none
    | some (fs,r)=>match qfg r with
     | none=>none
     | some (f,q)=>some (fs++[f],q))=_
   rw [ih]
   simp only
   rw [qaap (h x (by simp))]
termination_by fs=>fs.length
decreasing_by subst_vars;simp [List.concat_eq_append]
theorem qh4:∀(n:Nat) (l r:List UInt8) (fs:List Fl),qfu n l=some (fs,r)→fs.length=n∧(∀f∈fs,f.2.length≤4096∧∀x∈f.2,smX x)∧l=fs.flatMap qcf++r
 | 0,l,r,fs,h=>by
  injection h with h
  injection h with h1 h2
  subst h1 h2;exact ⟨rfl,by simp,by simp⟩
 | n+1,l,r,fs,h=>by
  unfold qfu at h
  cases e:qfu n l with
  | none=>rw [e] at h;cases h
  | some p=>
   obtain ⟨fs',q⟩:=p;rw [e] at h
   simp only at h
   cases e2:qfg q with
   | none=>rw [e2] at h;cases h
   | some p=>
    obtain ⟨x,z⟩:=p;rw [e2] at h
    simp only at h
    injection h with h
    injection h with h1 h2
    subst h1 h2;obtain ⟨a1,a2,a3⟩:=qh4 n l q fs' e;obtain ⟨b1,b2,b3⟩:=qaaq e2;refine ⟨by simp [a1], ?_, ?_⟩
    ·intro y hy
     rcases List.mem_append.1 hy with hy | hy
     ·exact a2 y hy
     ·obtain rfl:y=x:=by simpa using hy
      exact ⟨b1,b2⟩
    ·rw [List.flatMap_append,a3,b3]
     simp
theorem qnf {k:Nat} {l:List UInt8} (h:qfu k l=none):∀n,k≤n→qfu n l=none
 | 0,hn=>by
  obtain rfl:k=0:=by omega
  exact h
 | n+1,hn=>by
  by_cases e:k=n+1
  ·subst e;exact h
  ·unfold qfu;rw [qnf h n (by omega)]
theorem qaar {k:Nat} {l r:List UInt8} {fs:List Fl} (h:qfu k l=some (fs,r)) (h2:qfg r=none) {n:Nat} (hn:k<n):qfu n l=none:=by
 refine qnf (k:=k+1) ?_ n hn
 unfold qfu;rw [h];simp only;rw [h2]
theorem qyn {k:Nat} {l r q:List UInt8} {fs:List Fl} {x:Fl} (h:qfu k l=some (fs,r)) (h2:qfg r=some (x,q)):qfu (k+1) l=some (fs++[x],q):=by
 unfold qfu;rw [h];simp only;rw [h2]
def qc0 (l:List UInt8):Option (List Fl × List UInt8):=match cnum l with
 | none=>none
 | some (n,r)=>qfu n r
theorem qyo {fs:List Fl} (hl:fs.length≤4096) (h:∀f∈fs,smF5 f):qc0 (bytF fs)=some (fs,[]):=by
 unfold qc0 bytF;rw [qpe _ hl]
 simp only
 have:=qrd fs [] h
 rwa [List.append_nil] at this
theorem qng {l r:List UInt8} {fs:List Fl} (h:qc0 l=some (fs,r)):fs.length≤4096∧(∀f∈fs,f.2.length≤4096∧∀x∈f.2,smX x)∧l=bytF fs++r:=by
 unfold qc0 at h
 cases e:cnum l with
 | none=>rw [e] at h;cases h
 | some p=>
  obtain ⟨n,q⟩:=p;rw [e] at h
  simp only at h
  obtain ⟨a1,a2,a3⟩:=qh4 _ _ _ _ h;obtain ⟨b1,b2⟩:=qfe e;refine ⟨by omega,a2, ?_⟩;unfold bytF;rw [b2,a3,a1,List.append_assoc]
theorem qais {x:Ex} (h:smX x):wfX x:=by unfold smX at h;unfold wfX;omega
def qcv (b:List UInt8) (B:Int):Int:=
 if ¬blkP B then 2 else if 2048<b.length then 3 else match qc0 b with
  | some (fs,[])=>if mayF fs B then 0 else 8
  | _=>8
def qfv (b:List UInt8) (B:Int):List Fl:=if qcv b B=0 then (match qc0 b with | some (fs,_)=>fs | none=>[]) else []
theorem qaas {fs:List Fl} {B:Int} (h:mayF fs B) (hB:B≤4096):fs.length≤4096∧∀f∈fs,smF5 f:=by
 refine ⟨by have:=h.1;omega,fun f hf=>?_⟩;have h1:=qdg (h.2.1.1 f hf);refine ⟨by omega,by omega,fun x hx=>?_⟩
 have:=qdy h.2.2.1 x (List.mem_flatMap.2 ⟨f,hf,hx⟩)
 unfold smX;omega
theorem qaat {fs:List Fl} {B:Int} (h:chkF fs B=0):qcv (bytF fs) B=0∧qfv (bytF fs) B=fs:=by
 obtain ⟨h1,h2⟩:=qeq h;obtain ⟨k1,k2⟩:=qaas h2 h1.2;have e:=qyo k1 k2
 have e0:qcv (bytF fs) B=0:=by
  unfold qcv;rw [if_neg (by simpa using h1),if_neg (by have:=h2.2.2.2;omega),e]
  simp only
  rw [if_pos h2]
 exact ⟨e0,by unfold qfv;rw [if_pos e0,e]⟩
theorem qla {b:List UInt8} {B:Int} (h:qcv b B=0):chkF (qfv b B) B=0∧bytF (qfv b B)=b:=by
 have h0:=h;unfold qcv at h
 by_cases h1:blkP B
 ·rw [if_neg (by simpa using h1)] at h
  by_cases h2:2048<b.length
  ·rw [if_pos h2] at h;omega
  ·rw [if_neg h2] at h
   unfold qfv;rw [if_pos h0]
   cases e:qc0 b with
   | none=>rw [e] at h;simp at h
   | some p=>
    obtain ⟨fs,r⟩:=p;rw [e] at h
    cases r with
    | cons c r=>simp at h
    | nil=>
     simp only at h ⊢
     by_cases h3:mayF fs B
     ·obtain ⟨_,_,a3⟩:=qng e
      exact ⟨qo8 h1 h3,by rw [a3,List.append_nil]⟩
     ·rw [if_neg h3] at h;omega
 ·rw [if_pos h1] at h;omega
theorem qdn {b:List UInt8} {B:Int} (h:qcv b B≠0):qfv b B=[]:=by unfold qfv;rw [if_neg h]
theorem qre {b:List UInt8} {B:Int} (h:¬blkP B):qcv b B=2:=by unfold qcv;rw [if_pos h]
theorem qnh {b:List UInt8} {B:Int} (h:blkP B) (h2:2048<b.length):qcv b B=3:=by unfold qcv;rw [if_neg (by simpa using h),if_pos h2]
theorem qni {b:List UInt8} {B:Int} (h:blkP B) (h2:¬2048<b.length) (e:qc0 b=none):qcv b B=8:=by unfold qcv;rw [if_neg (by simpa using h),if_neg h2,e]
theorem qnj {b r:List UInt8} {fs:List Fl} {B:Int} (h:blkP B) (h2:¬2048<b.length) (e:qc0 b=some (fs,r)) (hr:r≠[]):qcv b B=8:=by
 unfold qcv;rw [if_neg (by simpa using h),if_neg h2,e]
 cases r with
 | nil=>exact absurd rfl hr
 | cons _ _=>rfl
theorem qnk {b:List UInt8} {fs:List Fl} {B:Int} (h:blkP B) (h2:¬2048<b.length) (e:qc0 b=some (fs,[])):qcv b B=(if mayF fs B then 0 else 8)∧(mayF fs B→qfv b B=fs):=by
 have e1:qcv b B=(if mayF fs B then 0 else 8):=by unfold qcv;rw [if_neg (by simpa using h),if_neg h2,e]
 exact ⟨e1,fun hm=>by unfold qfv;rw [e1,if_pos hm,if_pos rfl,e]⟩
end Go.Proofs.YtmeaiocohalphaaGreatDoor
