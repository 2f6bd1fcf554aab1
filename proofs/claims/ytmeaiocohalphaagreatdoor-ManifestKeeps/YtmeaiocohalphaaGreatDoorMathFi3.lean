/-
  Layer 5 in plain words: bytes that are read as a directory.
-/
import Derived.Test.YtmeaiocohalphaaGreatDoorMathFi
namespace Go.Proofs.YtmeaiocohalphaaGreatDoor
open Go.RowKit
set_option linter.unusedVariables false
set_option linter.unusedSimpArgs false
/-! ### counting blocks -/
def cntB (p:Int→Bool) (a:Int):Nat→Int
 | 0=>0
 | k+1=>cntB p a k+if p (a+k) then 1 else 0
theorem qpc (p:Int→Bool) (a:Int):∀k:Nat,cntB p a k≤k
 | 0=>by simp [cntB]
 | k+1=>by
  have:=qpc p a k
  simp only [cntB]
  split<;>omega
theorem qpd {p q:Int→Bool} (a:Int):∀k:Nat,(∀i:Nat,i<k→p (a+i)=true→q (a+i)=false)→cntB (fun n=>p n || q n) a k=cntB p a k+cntB q a k
 | 0,_=>by simp [cntB]
 | k+1,h=>by
  have ih:=qpd (p:=p) (q:=q) a k fun i hi=>h i (by omega)
  have hk:=h k (by omega)
  simp only [cntB,ih]
  show (cntB p a k+cntB q a k+if (p (a+k) || q (a+k))=true then (1:Int) else 0)=_
  obtain ⟨x,hx⟩:∃x,x=p (a+k):=⟨_,rfl⟩;obtain ⟨y,hy⟩:∃y,y=q (a+k):=⟨_,rfl⟩
  simp only [←hx,←hy] at hk ⊢
  clear h ih hx hy
  cases x<;>cases y<;>simp at hk ⊢<;>omega
theorem qwf (x:Ex) (a:Int) (ha:a≤x.1) (hx:0≤x.2):∀k:Nat,cntB (inX x) a k=max 0 (min (k:Int) (x.1+x.2 - a) - (x.1 - a))
 | 0=>by simp [cntB];omega
 | k+1=>by
  have ih:=qwf x a ha hx k
  simp only [cntB,ih,inX]
  by_cases h1:x.1≤a+k
  ·by_cases h2:a+(k:Int)<x.1+x.2
   ·simp only [h1,h2,decide_true,Bool.and_self,if_true];omega
   ·simp only [h1,h2,decide_true,decide_false,Bool.and_false];simp;omega
  ·simp only [h1,decide_false,Bool.false_and];simp;omega
theorem qho {a:Int} {k:Nat}:∀l:List Ex,(∀x∈l,a≤x.1∧1≤x.2∧x.1+x.2≤a+k)→apX l=true→qa9 l=cntB (inL l) a k
 | l,h,hp=>by
  rcases List.eq_nil_or_concat l with rfl | ⟨r,x,rfl⟩
  ·have:∀k,cntB (inL []) a k=0:=by
    intro k
    induction k with
    | zero=>rfl
    | succ k ih=>simp only [cntB,ih];simp [inL]
   rw [this];rfl
  ·rw [List.concat_eq_append] at h hp ⊢
   rw [qjz,Bool.and_eq_true] at hp;have ih:=qho r (fun y hy=>h y (by simp [hy])) hp.1
   have e:inL (r++[x])=fun n=>inL r n || inX x n:=by funext n;exact qf8 r x n
   have hx:=h x (by simp);rw [qip,e,qpd,←ih,qwf x a hx.1 (by omega)]
   ·omega
   ·intro i hi hl
    obtain ⟨y,hy,hyn⟩:=List.any_eq_true.1 hl
    have:=List.all_eq_true.1 hp.2 y hy
    cases hq:inX x (a+i) with
    | false=>rfl
    | true=>
     have hy1:=h y (by simp [hy]);have hm:=(qo7 (a:=x) (b:=y) (by omega) (by omega)).2 ⟨_,hq,hyn⟩
     simp [hm] at this
termination_by l=>l.length
decreasing_by subst_vars;simp [List.concat_eq_append]
/-! ### extents that may be -/
theorem extP_parts {l:List Ex} {b:Int}:extP l b↔(apX l=true∧allX l=0∧∀x∈l,34≤x.1∧x.1+x.2≤b):=by
 unfold extP
 constructor
 ·rintro ⟨h,k⟩
  obtain ⟨h1,h2⟩:=qo8 h;exact ⟨h2,h1,k⟩
 ·rintro ⟨h1,h2,h3⟩
  exact ⟨qkm h2 h1,h3⟩
theorem qdq {l:List Ex} {b:Int} (h:extP l b):∀x∈l,34≤x.1∧1≤x.2∧x.1+x.2≤b:=by
 intro x hx;obtain ⟨_,h2,h3⟩:=extP_parts.1 h
 have:=(qd0 h2).2 x hx
 have:=h3 x hx
 omega
theorem qaje {l:List Ex} {b c:Int} (h:extP l b) (hbc:b≤c):extP l c:=⟨h.1,fun x hx=>by have:=h.2 x hx;omega⟩
theorem qajf {fs:List Fl} {b c:Int} (h:mayF fs b) (hbc:b≤c):mayF fs c:=⟨h.1,h.2.1,qaje h.2.2.1 hbc,h.2.2.2⟩
theorem qkq {fs:List Fl} {b:Int} (h:chkF fs b=0):blkP b∧mayF fs b:=by
 unfold chkF at h
 by_cases h1:blkP b
 ·rw [if_neg (by simpa using h1)] at h
  by_cases h2:mayF fs b
  ·exact ⟨h1,h2⟩
  ·rw [if_neg h2] at h;omega
 ·rw [if_pos h1] at h;omega
theorem qkr {fs:List Fl} {b:Int} (h1:blkP b) (h2:mayF fs b):chkF fs b=0:=by
 unfold chkF;rw [if_neg (by simpa using h1),if_pos h2]
theorem qae8:blkP 4096:=⟨by omega,by omega⟩
theorem qj1 {fs:List Fl} {b:Int} (h:chkF fs b=0):chkF fs 4096=0:=by
 obtain ⟨h1,h2⟩:=qkq h;exact qkr qae8 (qajf h2 h1.2)
/-! ### FilesApart -/
theorem qj2 {a b:Int} {l:List Ex} {w:Int} (h:qdm a b l w=0):qcc a b l=0∧1≤w∧∃r,cutX (qcu a b l) w=some r∧qb1 a b l w=r:=by
 by_cases h1:qcc a b l=0
 ·by_cases h2:w<1∨4096<w
  ·rw [(qhm h1 h2).1] at h;omega
  ·have h3:1≤w:=by omega
   have h4:w≤4096:=by omega
   cases hc:cutX (qcu a b l) w with
   | none=>rw [(qyk h1 h3 h4 hc).1] at h;omega
   | some r=>exact ⟨h1,h3,r,rfl,(qyj h1 h3 h4 hc).2⟩
 ·rw [(qnm h1).1] at h;exact absurd h h1
/-! ### FilesFind -/
theorem qg1 (fs:List Fl) (s:List UInt8):isF fs s=true↔∃l,(s,l)∈fs:=by
 unfold isF;rw [List.any_eq_true]
 constructor
 ·rintro ⟨f,hf,e⟩
  obtain ⟨f1,f2⟩:=f
  have e:f1=s:=by simpa using e
  subst e;exact ⟨f2,hf⟩
 ·rintro ⟨l,hl⟩
  exact ⟨_,hl,by simp⟩
theorem qaap {fs:List Fl} {s:List UInt8} (h:isF fs s=false):∀f∈fs,f.1≠s:=by
 intro f hf e
 have:isF fs s=true:=(qg1 fs s).2 ⟨f.2,by rw [←e];exact hf⟩
 rw [h] at this;cases this
theorem qga {fs:List Fl} (hr:qcf fs) {s:List UInt8} {l:List Ex} (h:(s,l)∈fs):getF fs s=l:=by
 obtain ⟨t,ht,e⟩:=List.mem_iff_getElem.1 h;rw [qaao hr ht (by rw [e]),e]
theorem qti {fs:List Fl} (hr:qcf fs) {s:List UInt8} (h:isF fs s=true):(s,getF fs s)∈fs:=by
 obtain ⟨l,hl⟩:=(qg1 fs s).1 h
 rw [qga hr hl];exact hl
theorem qpe (fs:List Fl) (f:Fl):(insF fs f).Perm (f::fs):=by
 unfold insF
 refine List.perm_middle.trans ?_
 rw [List.take_append_drop]
theorem ins_mem {fs:List Fl} {f g:Fl}:g∈insF fs f↔g=f∨g∈fs:=by
 rw [(qpe fs f).mem_iff,List.mem_cons]
theorem qtj (fs:List Fl) (f:Fl):(insF fs f).length=fs.length+1:=by rw [(qpe fs f).length_eq,List.length_cons]
theorem qwg {fs:List Fl} (hr:qcf fs) {f:Fl} (h:isF fs f.1=false):qcf (insF fs f):=by
 have hlt:=qpb hr f.1;have hne:=qaap h;have e:fs=fs.take (posF fs f.1)++fs.drop (posF fs f.1):=(List.take_append_drop _ fs).symm;have hr':=hr;rw [e] at hr';unfold qcf at hr';rw [List.pairwise_append] at hr';unfold qcf insF;rw [List.pairwise_append,List.pairwise_cons]
 have hb:∀a∈fs.take (posF fs f.1),ltN a.1 f.1=true:=by
  intro a ha;obtain ⟨t,ht,rfl⟩:=List.mem_iff_getElem.1 ha;rw [List.length_take] at ht;rw [List.getElem_take];exact (hlt t (by omega)).1 (by omega)
 refine ⟨hr'.1,⟨?_,hr'.2.1⟩, ?_⟩
 ·intro g hg
  obtain ⟨t,ht,rfl⟩:=List.mem_iff_getElem.1 hg;rw [List.length_drop] at ht;rw [List.getElem_drop];refine qkp _ _ ((hlt _ (by omega)).2 (by omega)) (hne _ (List.getElem_mem _))
 ·intro a ha g hg
  rcases List.mem_cons.1 hg with rfl | hg
  ·exact hb a ha
  ·exact hr'.2.2 a ha g hg
theorem qra {fs gs:List Fl} (h:fs.Perm gs):(qao fs).Perm (qao gs):=List.Perm.flatMap_right _ h
theorem qaaq (l:List Ex):apX l=true↔l.Pairwise fun x y=>qjt x y=false:=by
 induction hn:l.length generalizing l with
 | zero=>
  obtain rfl:=List.eq_nil_of_length_eq_zero hn
  simp [apX]
 | succ n ih=>
  rcases List.eq_nil_or_concat l with rfl | ⟨r,x,rfl⟩
  ·simp at hn
  ·rw [List.concat_eq_append] at hn ⊢
   rw [qjz,List.pairwise_append,Bool.and_eq_true,ih r (by simpa using hn),List.all_eq_true]
   simp only [List.pairwise_cons,List.not_mem_nil,false_implies,implies_true,List.Pairwise.nil,and_self,true_and,List.mem_singleton,forall_eq]
   refine and_congr_right fun _=>forall_congr' fun y=>forall_congr' fun _=>?_
   rw [qnk x y]
   cases qjt y x<;>simp
theorem qae9 {l m:List Ex} (h:l.Perm m) (hl:apX l=true):apX m=true:=by
 rw [qaaq] at hl ⊢;exact (h.pairwise_iff (fun {a b} hab=>by rw [qnk];exact hab)).1 hl
theorem qks {l m:List Ex} {b:Int} (h:l.Perm m) (hl:extP l b):extP m b:=by
 obtain ⟨h1,h2,h3⟩:=extP_parts.1 hl;refine extP_parts.2 ⟨qae9 h h1, ?_,fun x hx=>h3 x (h.mem_iff.2 hx)⟩;obtain ⟨k1,k2⟩:=qd0 h2
 exact qkl (by rw [←h.length_eq];exact k1) fun x hx=>k2 x (h.mem_iff.2 hx)
theorem qwh {l m:List Ex} {b:Int} (h:l.Sublist m) (hm:extP m b):extP l b:=by
 obtain ⟨h1,h2,h3⟩:=extP_parts.1 hm;obtain ⟨k1,k2⟩:=qd0 h2;refine extP_parts.2 ⟨?_,qkl (Nat.le_trans h.length_le k1) fun x hx=>k2 x (h.subset hx),fun x hx=>h3 x (h.subset hx)⟩;rw [qaaq] at h1 ⊢;exact h1.sublist h
theorem qwi {fs gs:List Fl} (h:fs.Sublist gs):(qao fs).Sublist (qao gs):=by
 unfold qao
 induction h with
 | slnil=>exact List.Sublist.refl _
 | cons a _ ih=>rw [List.flatMap_cons];exact ih.trans (List.sublist_append_right _ _)
 | cons_cons a _ ih=>rw [List.flatMap_cons,List.flatMap_cons];exact (List.Sublist.refl _).append ih
theorem qj3 (fs:List Fl) (s:List UInt8):(delF fs s).Sublist fs:=List.filter_sublist
theorem qaar (fs:List Fl) (s:List UInt8):isF (delF fs s) s=false:=by
 unfold isF delF;rw [List.any_eq_false];intro f hf
 have:=(List.mem_filter.1 hf).2
 simpa using this
def qne (fs:List Fl) (x y:List UInt8):List Fl:=fs.filter fun f=>!(f.1==x) && !(f.1==y)
theorem qwj {fs:List Fl} {f:Fl} {x y:List UInt8} (h:f.1=x∨f.1=y):qne (insF fs f) x y=qne fs x y:=by
 unfold qne insF;rw [List.filter_append,List.filter_cons_of_neg (by rcases h with h | h<;>simp [h]),←List.filter_append,List.take_append_drop]
theorem qwk {fs:List Fl} {s x y:List UInt8} (h:s=x∨s=y):qne (delF fs s) x y=qne fs x y:=by
 unfold qne delF;rw [List.filter_filter]
 congr 1
 funext f
 cases e1:f.1==x<;>cases e2:f.1==y<;>cases e3:f.1==s<;>simp
 all_goals
  have e3:f.1=s:=by simpa using e3
  rcases h with h | h<;>simp_all
theorem qaas {fs:List Fl} (h:fitE fs=0):(bytF fs).length≤2048:=by
 unfold fitE at h
 split at h
 ·assumption
 ·omega
theorem qgb {fs:List Fl} {s:List UInt8} {l:List Ex} {b:Int} (h:qaz fs s l b=0):chkF fs b=0∧qb2 s=true∧isF fs s=false∧l≠[]∧extP (qao fs++l) b∧fs.length≠40∧l.length≤64∧(bytF (insF fs (s,l))).length≤2048:=by
 unfold qaz at h
 by_cases h1:chkF fs b=0
 ·rw [if_neg (by simpa using h1)] at h
  cases h2:qb2 s with
  | false=>rw [if_pos h2] at h;omega
  | true=>
   rw [if_neg (by simp [h2])] at h
   cases h3:isF fs s with
   | true=>rw [if_pos h3] at h;omega
   | false=>
    rw [if_neg (by simp [h3])] at h
    by_cases h4:l=[]∨¬extP (qao fs++l) b
    ·rw [if_pos h4] at h;omega
    ·rw [if_neg h4] at h
     by_cases h5:fs.length=40∨64<l.length
     ·rw [if_pos h5] at h;omega
     ·rw [if_neg h5] at h
      refine ⟨h1,rfl,rfl,fun e=>h4 (.inl e), ?_,fun e=>h5 (.inl e),by omega,qaas h⟩
      by_cases h6:extP (qao fs++l) b
      ·exact h6
      ·exact absurd (.inr h6) h4
 ·rw [if_pos h1] at h;exact absurd h h1
theorem qpf (fs:List Fl) (f:Fl):(qao (insF fs f)).Perm (qao fs++f.2):=by
 refine (qra (qpe fs f)).trans ?_
 unfold qao;rw [List.flatMap_cons];exact List.perm_append_comm
theorem qkt {fs:List Fl} {s:List UInt8} {l:List Ex} {b:Int} (h:qaz fs s l b=0):mayF (insF fs (s,l)) b:=by
 obtain ⟨h1,h2,h3,h4,h5,h6,h7,h8⟩:=qgb h;obtain ⟨g1,g2⟩:=qkq h1;refine ⟨?_,⟨?_,qwg g2.2.1.2 h3⟩,qks (qpf fs (s,l)).symm h5,h8⟩
 ·rw [qtj];have:=g2.1;omega
 ·intro f hf
  rcases ins_mem.1 hf with rfl | hf
  ·simp only [oneF,Bool.and_eq_true,decide_eq_true_eq]
   refine ⟨⟨h2, ?_⟩,h7⟩
   cases l with
   | nil=>exact absurd rfl h4
   | cons _ _=>simp
  ·exact g2.2.1.1 f hf
theorem qhp {fs:List Fl} {s:List UInt8} {b:Int} (h:chkF fs b=0) (h1:qb2 s=true) (h2:isF fs s=true):qa0 fs s=0∧qff fs s=(s,getF fs s):=by
 have e:qa0 fs s=0:=by
  unfold qa0;rw [if_neg (by simpa using qj1 h),if_neg (by simp [h1]),if_pos h2]
 exact ⟨e,by unfold qff;rw [if_pos e]⟩
theorem qnp {fs:List Fl} {s:List UInt8} {b:Int} (h:chkF fs b=0) (h1:qb2 s=true) (h2:isF fs s=false):qa0 fs s=6:=by
 unfold qa0;rw [if_neg (by simpa using qj1 h),if_neg (by simp [h1]),if_neg (by simp [h2])]
theorem qnq {fs:List Fl} {s:List UInt8} (h:qa0 fs s=0):chkF fs 4096=0∧qb2 s=true∧isF fs s=true:=by
 unfold qa0 at h
 by_cases h1:chkF fs 4096=0
 ·rw [if_neg (by simpa using h1)] at h
  cases h2:qb2 s with
  | false=>rw [if_pos h2] at h;omega
  | true=>
   rw [if_neg (by simp [h2])] at h
   cases h3:isF fs s with
   | true=>exact ⟨h1,rfl,rfl⟩
   | false=>rw [if_neg (by simp [h3])] at h;omega
 ·rw [if_pos h1] at h;exact absurd h h1
theorem qg2 {fs:List Fl} {s t:List UInt8} (h:qbe fs s t=0):chkF fs 4096=0∧qb2 s=true∧qb2 t=true∧isF fs s=true∧(bytF (renF fs s t)).length≤2048:=by
 unfold qbe at h
 by_cases h1:chkF fs 4096=0
 ·rw [if_neg (by simpa using h1)] at h
  by_cases h2:qb2 s=false∨qb2 t=false
  ·rw [if_pos h2] at h;omega
  ·rw [if_neg h2] at h
   cases h3:isF fs s with
   | false=>rw [if_neg (by simp [h3])] at h;omega
   | true=>
    rw [if_pos h3] at h
    simp at h2
    exact ⟨h1,h2.1,h2.2,rfl,qaas h⟩
 ·rw [if_pos h1] at h;exact absurd h h1
theorem qtk {fs:List Fl} {s:List UInt8} {l:List Ex} {b:Int} (h:qaz fs s l b=0):
  qa0 fs s=6∧chkF (insF fs (s,l)) b=0∧qa0 (insF fs (s,l)) s=0∧qff (insF fs (s,l)) s=(s,l)∧qne (insF fs (s,l)) s s=qne fs s s∧(insF fs (s,l)).length=fs.length+1:=by
 obtain ⟨h1,h2,h3,h4,h5,h6,h7,h8⟩:=qgb h;obtain ⟨g1,g2⟩:=qkq h1;have hm:=qkt h;have hc:=qkr g1 hm;have hin:(s,l)∈insF fs (s,l):=ins_mem.2 (.inl rfl);obtain ⟨t1,t2⟩:=qhp hc h2 ((qg1 _ _).2 ⟨l,hin⟩);rw [qga hm.2.1.2 hin] at t2;exact ⟨qnp h1 h2 h3,hc,t1,t2,qwj (.inl rfl),qtj _ _⟩
theorem qafa {fs:List Fl} (hr:qcf fs) {s:List UInt8} (h:isF fs s=true):fs.Perm ((s,getF fs s)::delF fs s):=by
 induction fs with
 | nil=>simp [isF] at h
 | cons f r ih=>
  have hr':qcf r:=(List.pairwise_cons.1 hr).2;have hf:=(List.pairwise_cons.1 hr).1
  by_cases e:f.1=s
  ·have hg:getF (f::r) s=f.2:=qga hr (by subst e;exact List.mem_cons_self ..)
   have hd:delF (f::r) s=r:=by
    unfold delF;rw [List.filter_cons_of_neg (by simp [e])];rw [List.filter_eq_self];intro g hg
    have:=qaai (hf g hg)
    rw [e] at this
    simp [Ne.symm this]
   rw [hg,hd];subst e;exact List.Perm.refl _
  ·have h':isF r s=true:=by
    unfold isF at h ⊢;rw [List.any_cons] at h
    simpa [e] using h
   have hg:getF (f::r) s=getF r s:=by
    have:=qti hr' h'
    exact qga hr (List.mem_cons_of_mem _ this)
   have hd:delF (f::r) s=f::delF r s:=by
    unfold delF;rw [List.filter_cons_of_pos (by simp [e])]
   rw [hg,hd];exact ((ih hr' h').cons f).trans (List.Perm.swap _ _ _)
theorem qku {fs:List Fl} {s t:List UInt8} {b:Int} (hb:mayF fs b) (h:qbe fs s t=0):mayF (renF fs s t) b:=by
 obtain ⟨h1,h2,h3,h4,h5⟩:=qg2 h;have hr:=hb.2.1.2;have hp:=qafa hr h4;have hsub:(delF (delF fs s) t).Sublist (delF fs s):=qj3 _ _;refine ⟨?_,⟨?_,qwg (qhn (qhn hr s) t) (qaar _ _)⟩, ?_,h5⟩
 ·unfold renF
  rw [qtj];have e1:=hp.length_eq;rw [List.length_cons] at e1;have e2:=hsub.length_le
  have:=hb.1
  omega
 ·intro f hf
  rcases ins_mem.1 hf with rfl | hf
  ·have:=hb.2.1.1 _ (qti hr h4)
   simp only [oneF,Bool.and_eq_true] at this ⊢
   exact ⟨⟨h3,this.1.2⟩,this.2⟩
  ·exact hb.2.1.1 f ((qj3 fs s).subset (hsub.subset hf))
 ·have e1:=qpf (delF (delF fs s) t) (t,getF fs s)
  have e2:(qao fs).Perm (qao (delF fs s)++getF fs s):=(qra hp).trans (by unfold qao;rw [List.flatMap_cons];exact List.perm_append_comm);have e3:=qks e2 hb.2.2.1;exact qks e1.symm (qwh ((qwi hsub).append (List.Sublist.refl _)) e3)
theorem qkv {fs:List Fl} {s t:List UInt8} {b:Int} (hb:chkF fs b=0) (h:qbe fs s t=0):
  qa0 fs s=0∧qff fs s=(s,getF fs s)∧chkF (renF fs s t) b=0∧qa0 (renF fs s t) t=0∧qff (renF fs s t) t=(t,getF fs s)∧(s≠t→qa0 (renF fs s t) s=6)∧qne (renF fs s t) s t=qne fs s t:=by
 obtain ⟨h1,h2,h3,h4,h5⟩:=qg2 h;obtain ⟨g1,g2⟩:=qkq hb;have hm:=qku g2 h;have hc:=qkr g1 hm;have hin:(t,getF fs s)∈renF fs s t:=ins_mem.2 (.inl rfl);obtain ⟨t1,t2⟩:=qhp hc h3 ((qg1 _ _).2 ⟨_,hin⟩);rw [qga hm.2.1.2 hin] at t2;obtain ⟨u1,u2⟩:=qhp hb h2 h4;refine ⟨u1,u2,hc,t1,t2,fun hne=>qnp hc h2 ?_, ?_⟩
 ·cases e:isF (renF fs s t) s with
  | false=>rfl
  | true=>
   obtain ⟨l,hl⟩:=(qg1 _ _).1 e
   rcases ins_mem.1 hl with e | hl
   ·injection e with e1 _;exact absurd e1 hne
   ·have:=qaap (qaar fs s) _ ((qj3 _ _).subset hl)
    simp at this
 ·unfold renF
  rw [qwj (.inr rfl),qwk (.inr rfl),qwk (.inl rfl)]
theorem qaif {fs:List Fl} (h:∀f∈fs,∀x∈f.2,wfX x) {f:Fl} (hf:∀x∈f.2,wfX x):∀g∈insF fs f,∀x∈g.2,wfX x:=by
 intro g hg
 rcases ins_mem.1 hg with rfl | hg
 ·exact hf
 ·exact h g hg
theorem qaig {fs:List Fl} (h:∀f∈fs,∀x∈f.2,wfX x) (s:List UInt8):∀g∈delF fs s,∀x∈g.2,wfX x:=fun g hg=>h g ((qj3 fs s).subset hg)
theorem wf_ren {fs:List Fl} (h:∀f∈fs,∀x∈f.2,wfX x) (s t:List UInt8):∀g∈renF fs s t,∀x∈g.2,wfX x:=by
 refine qaif (qaig (qaig h s) t) ?_
 show ∀x∈getF fs s,wfX x
 unfold getF;intro x hx
 cases e:fs.find? (fun f=>f.1==s) with
 | none=>rw [e] at hx;simp at hx
 | some f=>rw [e] at hx;exact h f (List.mem_of_find?_eq_some e) x (by simpa using hx)
theorem qwl:∀(l:List UInt8) (i acc n k:Nat),i≤9→rdGo l i acc=some (n,k)→∃m,n=acc+m*128 ^ i∧i<k∧k - i≤l.length∧l.take (k - i)=sm m∧(0<i→0<m)
 | [],i,acc,n,k,_,h=>by simp [rdGo] at h
 | c::r,i,acc,n,k,hi,h=>by
  have hc:c.toNat<256:=c.toNat_lt;unfold rdGo at h
  by_cases h1:i=9∧1<c.toNat
  ·rw [if_pos h1] at h;cases h
  ·rw [if_neg h1] at h
   by_cases h2:128≤c.toNat
   ·rw [if_pos h2] at h
    obtain ⟨m,e1,e2,e3,e4,e5⟩:=qwl r (i+1) _ n k (by omega) h;have hm:0<m:=e5 (by omega);refine ⟨c.toNat % 128+128*m, ?_,by omega,by rw [List.length_cons];omega, ?_,fun _=>by omega⟩
    ·rw [e1,Nat.pow_succ,Nat.add_mul,Nat.mul_comm 128 m,Nat.mul_assoc m 128,Nat.mul_comm 128 (128 ^ i)]
     omega
    ·rw [show k - i=(k - (i+1))+1 by omega,List.take_succ_cons,e4,qz6 (by omega:128≤c.toNat % 128+128*m)]
     have a1:(c.toNat % 128+128*m) % 128+128=c.toNat:=by omega
     have a2:(c.toNat % 128+128*m) / 128=m:=by omega
     rw [a1,a2]
     congr 1
     exact (UInt8.ofNat_toNat).symm
   ·rw [if_neg h2] at h
    by_cases h3:c.toNat=0∧0<i
    ·rw [if_pos h3] at h;cases h
    ·rw [if_neg h3] at h
     injection h with h
     injection h with e1 e2
     refine ⟨c.toNat,e1.symm,by omega,by rw [List.length_cons];omega, ?_,fun hi=>by omega⟩;rw [show k - i=1 by omega,qo5 (by omega:c.toNat<128)]
     simp
theorem qaat {l:List UInt8} {n k:Nat} (h:rd l=some (n,k)):l=sm n++l.drop k∧k=(sm n).length:=by
 obtain ⟨m,e1,e2,e3,e4,_⟩:=qwl l 0 0 n k (by omega) h
 have hm:n=m:=by simpa using e1
 subst hm;rw [Nat.sub_zero] at e3 e4
 have hk:k=(sm n).length:=by rw [←e4,List.length_take];omega
 exact ⟨by rw [←e4,List.take_append_drop],hk⟩
def cnum (l:List UInt8):Option (Nat × List UInt8):=match rd l with
 | none=>none
 | some (n,k)=>if n≤4096 then some (n,l.drop k) else none
theorem qpg (n:Nat) (h:n≤4096) (r:List UInt8):cnum (sm n++r)=some (n,r):=by
 unfold cnum;rw [qajb n (by omega)]
 simp [h]
theorem qex {l r:List UInt8} {n:Nat} (h:cnum l=some (n,r)):n≤4096∧l=sm n++r:=by
 unfold cnum at h
 cases e:rd l with
 | none=>rw [e] at h;cases h
 | some p=>
  obtain ⟨m,k⟩:=p;rw [e] at h
  simp only at h
  by_cases hm:m≤4096
  ·rw [if_pos hm] at h
   injection h with h
   injection h with e1 e2
   subst e1 e2;exact ⟨hm,(qaat e).1⟩
  ·rw [if_neg hm] at h;cases h
theorem qafb {l r:List UInt8} {n:Nat} (h:cnum l=some (n,r)):r.length<l.length:=by
 have:=(qex h).2
 have h1:=qwb n
 rw [this,List.length_append];omega
def cext (l:List UInt8):Option (Ex × List UInt8):=match cnum l with
 | none=>none
 | some (x,r)=>match cnum r with
  | none=>none
  | some (y,q)=>some (((x:Int),(y:Int)),q)
def smX (x:Ex):Prop:=0≤x.1∧x.1≤4096∧0≤x.2∧x.2≤4096
theorem qafc {x:Ex} (h:smX x) (r:List UInt8):cext (bytX x++r)=some (x,r):=by
 obtain ⟨a,b⟩:=x;obtain ⟨h1,h2,h3,h4⟩:=h
 simp only at h1 h2 h3 h4
 unfold cext bytX;rw [List.append_assoc,qpg _ (by simp only;omega)]
 simp only
 rw [qpg _ (by omega)]
 simp only [Option.some.injEq,Prod.mk.injEq,and_true]
 omega
theorem qafd {l r:List UInt8} {x:Ex} (h:cext l=some (x,r)):smX x∧l=bytX x++r:=by
 unfold cext at h
 cases e:cnum l with
 | none=>rw [e] at h;cases h
 | some p=>
  obtain ⟨m,q⟩:=p;rw [e] at h
  simp only at h
  cases e2:cnum q with
  | none=>rw [e2] at h;cases h
  | some p=>
   obtain ⟨m2,q2⟩:=p;rw [e2] at h
   simp only at h
   injection h with h
   injection h with h1 h2
   subst h1 h2;obtain ⟨a1,a2⟩:=qex e;obtain ⟨b1,b2⟩:=qex e2;refine ⟨⟨by simp,by simp only;omega,by simp,by simp only;omega⟩, ?_⟩;unfold bytX
   simp only [Int.toNat_natCast]
   rw [a2,List.append_assoc,←b2]
def qey:Nat→List UInt8→Option (List Ex × List UInt8)
 | 0,l=>some ([],l)
 | n+1,l=>match qey n l with
  | none=>none
  | some (es,r)=>match cext r with
   | none=>none
   | some (x,q)=>some (es++[x],q)
theorem qrb:∀(es:List Ex) (r:List UInt8),(∀x∈es,smX x)→qey es.length (bytE es++r)=some (es,r)
 | es,r,h=>by
  rcases List.eq_nil_or_concat es with rfl | ⟨q,x,rfl⟩
  ·rfl
  ·rw [List.concat_eq_append] at h ⊢
   have ih:=qrb q (bytX x++r) (fun y hy=>h y (by simp [hy]))
   have e:bytE (q++[x])++r=bytE q++(bytX x++r):=by unfold bytE;rw [List.flatMap_append];simp
   rw [List.length_append,e]
   show (match qey q.length (bytE q++(bytX x++r)) with
    | none=>none
    | some (es,r)=>match cext r with
     | none=>none
     | some (x,q)=>some (es++[x],q))=_
   rw [ih]
   simp only
   rw [qafc (h x (by simp))]
termination_by es=>es.length
decreasing_by subst_vars;simp [List.concat_eq_append]
theorem qkw:∀(n:Nat) (l r:List UInt8) (es:List Ex),qey n l=some (es,r)→es.length=n∧(∀x∈es,smX x)∧l=bytE es++r
 | 0,l,r,es,h=>by
  injection h with h
  injection h with h1 h2
  subst h1 h2;exact ⟨rfl,by simp,by simp [bytE]⟩
 | n+1,l,r,es,h=>by
  unfold qey at h
  cases e:qey n l with
  | none=>rw [e] at h;cases h
  | some p=>
   obtain ⟨es',q⟩:=p;rw [e] at h
   simp only at h
   cases e2:cext q with
   | none=>rw [e2] at h;cases h
   | some p=>
    obtain ⟨x,z⟩:=p;rw [e2] at h
    simp only at h
    injection h with h
    injection h with h1 h2
    subst h1 h2;obtain ⟨a1,a2,a3⟩:=qkw n l q es' e;obtain ⟨b1,b2⟩:=qafd e2;refine ⟨by simp [a1], ?_, ?_⟩
    ·intro y hy
     rcases List.mem_append.1 hy with hy | hy
     ·exact a2 y hy
     ·obtain rfl:y=x:=by simpa using hy
      exact b1
    ·unfold bytE at a3 ⊢
     rw [List.flatMap_append,a3,b2]
     simp
theorem qnr {k:Nat} {l:List UInt8} (h:qey k l=none):∀n,k≤n→qey n l=none
 | 0,hn=>by
  obtain rfl:k=0:=by omega
  exact h
 | n+1,hn=>by
  by_cases e:k=n+1
  ·subst e;exact h
  ·unfold qey;rw [qnr h n (by omega)]
theorem qaau {k:Nat} {l r:List UInt8} {es:List Ex} (h:qey k l=some (es,r)) (h2:cext r=none) {n:Nat} (hn:k<n):qey n l=none:=by
 refine qnr (k:=k+1) ?_ n hn
 unfold qey;rw [h];simp only;rw [h2]
theorem qyo {k:Nat} {l r q:List UInt8} {es:List Ex} {x:Ex} (h:qey k l=some (es,r)) (h2:cext r=some (x,q)):qey (k+1) l=some (es++[x],q):=by
 unfold qey;rw [h];simp only;rw [h2]
def qez (l:List UInt8):Option (Fl × List UInt8):=match ct l with
 | none=>none
 | some (s,r)=>match cnum r with
  | none=>none
  | some (n,q)=>match qey n q with
   | none=>none
   | some (es,z)=>some ((s,es),z)
theorem qwm {l s r:List UInt8} (h:ct l=some (s,r)):l=tx s++r:=by
 cases e:rd l with
 | none=>rw [qaaf e] at h;cases h
 | some p=>
  obtain ⟨n,k⟩:=p
  by_cases hn:n≤l.length - k
  ·rw [qtg e hn] at h
   injection h with h
   injection h with h1 h2
   subst h1 h2;obtain ⟨a1,a2⟩:=qaat e
   have hl:((l.drop k).take n).length=n:=by rw [List.length_take,List.length_drop];omega
   unfold tx;rw [hl,List.append_assoc,←List.drop_drop,List.take_append_drop];exact a1
  ·rw [qaag e hn] at h;cases h
def smF5 (f:Fl):Prop:=f.1.length≤1000000∧f.2.length≤4096∧∀x∈f.2,smX x
theorem qaav {f:Fl} (h:smF5 f) (r:List UInt8):qez (qdg f++r)=some (f,r):=by
 obtain ⟨s,es⟩:=f;obtain ⟨h1,h2,h3⟩:=h
 simp only at h1 h2 h3
 unfold qez qdg
 simp only
 rw [List.append_assoc,qajc s _ (by omega)]
 simp only
 rw [List.append_assoc,qpg _ h2]
 simp only
 rw [qrb es r h3]
theorem qaaw {l r:List UInt8} {f:Fl} (h:qez l=some (f,r)):f.2.length≤4096∧(∀x∈f.2,smX x)∧l=qdg f++r:=by
 unfold qez at h
 cases e:ct l with
 | none=>rw [e] at h;cases h
 | some p=>
  obtain ⟨s,q⟩:=p;rw [e] at h
  simp only at h
  cases e2:cnum q with
  | none=>rw [e2] at h;cases h
  | some p=>
   obtain ⟨n,q2⟩:=p;rw [e2] at h
   simp only at h
   cases e3:qey n q2 with
   | none=>rw [e3] at h;cases h
   | some p=>
    obtain ⟨es,z⟩:=p;rw [e3] at h
    simp only at h
    injection h with h
    injection h with h1 h2
    subst h1 h2;obtain ⟨a1,a2,a3⟩:=qkw _ _ _ _ e3;obtain ⟨b1,b2⟩:=qex e2;refine ⟨by simp only;omega,a2, ?_⟩;unfold qdg
    simp only
    rw [qwm e,b2,a3,a1]
    simp
def qfd:Nat→List UInt8→Option (List Fl × List UInt8)
 | 0,l=>some ([],l)
 | n+1,l=>match qfd n l with
  | none=>none
  | some (fs,r)=>match qez r with
   | none=>none
   | some (f,q)=>some (fs++[f],q)
theorem qrc:∀(fs:List Fl) (r:List UInt8),(∀f∈fs,smF5 f)→qfd fs.length (fs.flatMap qdg++r)=some (fs,r)
 | fs,r,h=>by
  rcases List.eq_nil_or_concat fs with rfl | ⟨q,x,rfl⟩
  ·rfl
  ·rw [List.concat_eq_append] at h ⊢
   have ih:=qrc q (qdg x++r) (fun y hy=>h y (by simp [hy]))
   have e:(q++[x]).flatMap qdg++r=q.flatMap qdg++(qdg x++r):=by rw [List.flatMap_append];simp
   rw [List.length_append,e]
   show (match qfd q.length (q.flatMap qdg++(qdg x++r)) with
    | none=>none
    | some (fs,r)=>match qez r with
     | none=>none
     | some (f,q)=>some (fs++[f],q))=_
   rw [ih]
   simp only
   rw [qaav (h x (by simp))]
termination_by fs=>fs.length
decreasing_by subst_vars;simp [List.concat_eq_append]
theorem qhq:∀(n:Nat) (l r:List UInt8) (fs:List Fl),qfd n l=some (fs,r)→fs.length=n∧(∀f∈fs,f.2.length≤4096∧∀x∈f.2,smX x)∧l=fs.flatMap qdg++r
 | 0,l,r,fs,h=>by
  injection h with h
  injection h with h1 h2
  subst h1 h2;exact ⟨rfl,by simp,by simp⟩
 | n+1,l,r,fs,h=>by
  unfold qfd at h
  cases e:qfd n l with
  | none=>rw [e] at h;cases h
  | some p=>
   obtain ⟨fs',q⟩:=p;rw [e] at h
   simp only at h
   cases e2:qez q with
   | none=>rw [e2] at h;cases h
   | some p=>
    obtain ⟨x,z⟩:=p;rw [e2] at h
    simp only at h
    injection h with h
    injection h with h1 h2
    subst h1 h2;obtain ⟨a1,a2,a3⟩:=qhq n l q fs' e;obtain ⟨b1,b2,b3⟩:=qaaw e2;refine ⟨by simp [a1], ?_, ?_⟩
    ·intro y hy
     rcases List.mem_append.1 hy with hy | hy
     ·exact a2 y hy
     ·obtain rfl:y=x:=by simpa using hy
      exact ⟨b1,b2⟩
    ·rw [List.flatMap_append,a3,b3]
     simp
theorem qns {k:Nat} {l:List UInt8} (h:qfd k l=none):∀n,k≤n→qfd n l=none
 | 0,hn=>by
  obtain rfl:k=0:=by omega
  exact h
 | n+1,hn=>by
  by_cases e:k=n+1
  ·subst e;exact h
  ·unfold qfd;rw [qns h n (by omega)]
theorem qaax {k:Nat} {l r:List UInt8} {fs:List Fl} (h:qfd k l=some (fs,r)) (h2:qez r=none) {n:Nat} (hn:k<n):qfd n l=none:=by
 refine qns (k:=k+1) ?_ n hn
 unfold qfd;rw [h];simp only;rw [h2]
theorem qyp {k:Nat} {l r q:List UInt8} {fs:List Fl} {x:Fl} (h:qfd k l=some (fs,r)) (h2:qez r=some (x,q)):qfd (k+1) l=some (fs++[x],q):=by
 unfold qfd;rw [h];simp only;rw [h2]
def qcw (l:List UInt8):Option (List Fl × List UInt8):=match cnum l with
 | none=>none
 | some (n,r)=>qfd n r
theorem qyq {fs:List Fl} (hl:fs.length≤4096) (h:∀f∈fs,smF5 f):qcw (bytF fs)=some (fs,[]):=by
 unfold qcw bytF;rw [qpg _ hl]
 simp only
 have:=qrc fs [] h
 rwa [List.append_nil] at this
theorem qnt {l r:List UInt8} {fs:List Fl} (h:qcw l=some (fs,r)):fs.length≤4096∧(∀f∈fs,f.2.length≤4096∧∀x∈f.2,smX x)∧l=bytF fs++r:=by
 unfold qcw at h
 cases e:cnum l with
 | none=>rw [e] at h;cases h
 | some p=>
  obtain ⟨n,q⟩:=p;rw [e] at h
  simp only at h
  obtain ⟨a1,a2,a3⟩:=qhq _ _ _ _ h;obtain ⟨b1,b2⟩:=qex e;refine ⟨by omega,a2, ?_⟩;unfold bytF;rw [b2,a3,a1,List.append_assoc]
theorem smX_wf {x:Ex} (h:smX x):wfX x:=by unfold smX at h;unfold wfX;omega
def qdh (b:List UInt8) (B:Int):Int:=
 if ¬blkP B then 2 else if 2048<b.length then 3 else match qcw b with
  | some (fs,[])=>if mayF fs B then 0 else 8
  | _=>8
def qg3 (b:List UInt8) (B:Int):List Fl:=if qdh b B=0 then (match qcw b with | some (fs,_)=>fs | none=>[]) else []
theorem qajg {fs:List Fl} {B:Int} (h:mayF fs B) (hB:B≤4096):fs.length≤4096∧∀f∈fs,smF5 f:=by
 refine ⟨by have:=h.1;omega,fun f hf=>?_⟩;have h1:=qf9 (h.2.1.1 f hf);refine ⟨by omega,by omega,fun x hx=>?_⟩
 have:=qdq h.2.2.1 x (List.mem_flatMap.2 ⟨f,hf,hx⟩)
 unfold smX;omega
theorem qaay {fs:List Fl} {B:Int} (h:chkF fs B=0):qdh (bytF fs) B=0∧qg3 (bytF fs) B=fs:=by
 obtain ⟨h1,h2⟩:=qkq h;obtain ⟨k1,k2⟩:=qajg h2 h1.2;have e:=qyq k1 k2
 have e0:qdh (bytF fs) B=0:=by
  unfold qdh;rw [if_neg (by simpa using h1),if_neg (by have:=h2.2.2.2;omega),e]
  simp only
  rw [if_pos h2]
 exact ⟨e0,by unfold qg3;rw [if_pos e0,e]⟩
theorem qrd {b:List UInt8} {B:Int} (h:qdh b B=0):chkF (qg3 b B) B=0∧bytF (qg3 b B)=b:=by
 have h0:=h;unfold qdh at h
 by_cases h1:blkP B
 ·rw [if_neg (by simpa using h1)] at h
  by_cases h2:2048<b.length
  ·rw [if_pos h2] at h;omega
  ·rw [if_neg h2] at h
   unfold qg3;rw [if_pos h0]
   cases e:qcw b with
   | none=>rw [e] at h;simp at h
   | some p=>
    obtain ⟨fs,r⟩:=p;rw [e] at h
    cases r with
    | cons c r=>simp at h
    | nil=>
     simp only at h ⊢
     by_cases h3:mayF fs B
     ·obtain ⟨_,_,a3⟩:=qnt e
      exact ⟨qkr h1 h3,by rw [a3,List.append_nil]⟩
     ·rw [if_neg h3] at h;omega
 ·rw [if_pos h1] at h;omega
theorem qhr {b:List UInt8} {B:Int} (h:qdh b B≠0):qg3 b B=[]:=by unfold qg3;rw [if_neg h]
theorem qaaz {b:List UInt8} {B:Int} (h:¬blkP B):qdh b B=2:=by unfold qdh;rw [if_pos h]
theorem qyr {b:List UInt8} {B:Int} (h:blkP B) (h2:2048<b.length):qdh b B=3:=by unfold qdh;rw [if_neg (by simpa using h),if_pos h2]
theorem qys {b:List UInt8} {B:Int} (h:blkP B) (h2:¬2048<b.length) (e:qcw b=none):qdh b B=8:=by unfold qdh;rw [if_neg (by simpa using h),if_neg h2,e]
theorem qyt {b r:List UInt8} {fs:List Fl} {B:Int} (h:blkP B) (h2:¬2048<b.length) (e:qcw b=some (fs,r)) (hr:r≠[]):qdh b B=8:=by
 unfold qdh;rw [if_neg (by simpa using h),if_neg h2,e]
 cases r with
 | nil=>exact absurd rfl hr
 | cons _ _=>rfl
theorem qyu {b:List UInt8} {fs:List Fl} {B:Int} (h:blkP B) (h2:¬2048<b.length) (e:qcw b=some (fs,[])):qdh b B=(if mayF fs B then 0 else 8)∧(mayF fs B→qg3 b B=fs):=by
 have e1:qdh b B=(if mayF fs B then 0 else 8):=by unfold qdh;rw [if_neg (by simpa using h),if_neg h2,e]
 exact ⟨e1,fun hm=>by unfold qg3;rw [e1,if_pos hm,if_pos rfl,e]⟩
end Go.Proofs.YtmeaiocohalphaaGreatDoor
