/-
  Layer 5 in plain words: blocks apart, counted; directories made, deleted, renamed may be.
-/
import Derived.Test.YtpkdiododlhipaaGreatMathFi
namespace Go.Proofs.YtpkdiododlhipaaGreat
open Go.RowKit
set_option linter.all false
/-! ### counting blocks -/
def cntB (p:Int→Bool) (a:Int):Nat→Int
 | 0=>0
 | k+1=>cntB p a k+if p (a+k) then 1 else 0
theorem qqx (p:Int→Bool) (a:Int):∀k:Nat,cntB p a k≤k
 | 0=>by simp [cntB]
 | k+1=>by
  have:=qqx p a k
  simp only [cntB]
  split<;>omega
theorem qm6 {p q:Int→Bool} (a:Int):∀k:Nat,(∀i:Nat,i<k→p (a+i)=true→q (a+i)=false)→cntB (fun n=>p n || q n) a k=cntB p a k+cntB q a k
 | 0,_=>by simp [cntB]
 | k+1,h=>by
  have ih:=qm6 (p:=p) (q:=q) a k fun i hi=>h i (by omega)
  have hk:=h k (by omega)
  simp only [cntB,ih]
  show (cntB p a k+cntB q a k+if (p (a+k) || q (a+k))=true then (1:Int) else 0)=_
  obtain ⟨x,hx⟩:∃x,x=p (a+k):=⟨_,rfl⟩;obtain ⟨y,hy⟩:∃y,y=q (a+k):=⟨_,rfl⟩
  simp only [←hx,←hy] at hk ⊢
  clear h ih hx hy
  cases x<;>cases y<;>simp at hk ⊢<;>omega
theorem qsd (x:Ex) (a:Int) (ha:a≤x.1) (hx:0≤x.2):∀k:Nat,cntB (inX x) a k=max 0 (min (k:Int) (x.1+x.2 - a) - (x.1 - a))
 | 0=>by simp [cntB];omega
 | k+1=>by
  have ih:=qsd x a ha hx k
  simp only [cntB,ih,inX]
  by_cases h1:x.1≤a+k
  ·by_cases h2:a+(k:Int)<x.1+x.2
   ·simp only [h1,h2,decide_true,Bool.and_self,if_true];omega
   ·simp only [h1,h2,decide_true,decide_false,Bool.and_false];simp;omega
  ·simp only [h1,decide_false,Bool.false_and];simp;omega
theorem qka {a:Int} {k:Nat}:∀l:List Ex,(∀x∈l,a≤x.1∧1≤x.2∧x.1+x.2≤a+k)→apX l=true→qa8 l=cntB (inL l) a k
 | l,h,hp=>by
  rcases List.eq_nil_or_concat l with rfl | ⟨r,x,rfl⟩
  ·have:∀k,cntB (inL []) a k=0:=by
    intro k
    induction k with
    | zero=>rfl
    | succ k ih=>simp only [cntB,ih];simp [inL]
   rw [this];rfl
  ·rw [List.concat_eq_append] at h hp ⊢
   rw [qjj,Bool.and_eq_true] at hp;have ih:=qka r (fun y hy=>h y (by simp [hy])) hp.1
   have e:inL (r++[x])=fun n=>inL r n || inX x n:=by funext n;exact qf5 r x n
   have hx:=h x (by simp);rw [qic,e,qm6,←ih,qsd x a hx.1 (by omega)]
   ·omega
   ·intro i hi hl
    obtain ⟨y,hy,hyn⟩:=List.any_eq_true.1 hl
    have:=List.all_eq_true.1 hp.2 y hy
    cases hq:inX x (a+i) with
    | false=>rfl
    | true=>
     have hy1:=h y (by simp [hy]);have hm:=(qm1 (a:=x) (b:=y) (by omega) (by omega)).2 ⟨_,hq,hyn⟩
     simp [hm] at this
termination_by l=>l.length
decreasing_by subst_vars;simp [List.concat_eq_append]
/-! ### extents that may be -/
theorem extP_parts {l:List Ex} {b:Int}:extP l b↔(apX l=true∧allX l=0∧∀x∈l,34≤x.1∧x.1+x.2≤b):=by
 unfold extP
 constructor
 ·rintro ⟨h,k⟩
  obtain ⟨h1,h2⟩:=qm2 h;exact ⟨h2,h1,k⟩
 ·rintro ⟨h1,h2,h3⟩
  exact ⟨qj6 h2 h1,h3⟩
theorem qdo {l:List Ex} {b:Int} (h:extP l b):∀x∈l,34≤x.1∧1≤x.2∧x.1+x.2≤b:=by
 intro x hx;obtain ⟨_,h2,h3⟩:=extP_parts.1 h
 have:=(qdy h2).2 x hx
 have:=h3 x hx
 omega
theorem qach {l:List Ex} {b c:Int} (h:extP l b) (hbc:b≤c):extP l c:=⟨h.1,fun x hx=>by have:=h.2 x hx;omega⟩
theorem qaci {fs:List Fl} {b c:Int} (h:mayF fs b) (hbc:b≤c):mayF fs c:=⟨h.1,h.2.1,qach h.2.2.1 hbc,h.2.2.2⟩
theorem qig {fs:List Fl} {b:Int} (h:chkF fs b=0):blkP b∧mayF fs b:=by
 unfold chkF at h
 by_cases h1:blkP b
 ·rw [if_neg (by simpa using h1)] at h
  by_cases h2:mayF fs b
  ·exact ⟨h1,h2⟩
  ·rw [if_neg h2] at h;omega
 ·rw [if_pos h1] at h;omega
theorem qih {fs:List Fl} {b:Int} (h1:blkP b) (h2:mayF fs b):chkF fs b=0:=by
 unfold chkF;rw [if_neg (by simpa using h1),if_pos h2]
theorem qzk:blkP 4096:=⟨by omega,by omega⟩
theorem qhg {fs:List Fl} {b:Int} (h:chkF fs b=0):chkF fs 4096=0:=by
 obtain ⟨h1,h2⟩:=qig h;exact qih qzk (qaci h2 h1.2)
/-! ### FilesApart -/
theorem qjl {a b:Int} {l:List Ex} {w:Int} (h:qdj a b l w=0):qcc a b l=0∧1≤w∧∃r,cutX (qcn a b l) w=some r∧qce a b l w=r:=by
 by_cases h1:qcc a b l=0
 ·by_cases h2:w<1∨4096<w
  ·rw [(qhc h1 h2).1] at h;omega
  ·have h3:1≤w:=by omega
   have h4:w≤4096:=by omega
   cases hc:cutX (qcn a b l) w with
   | none=>rw [(qtx h1 h3 h4 hc).1] at h;omega
   | some r=>exact ⟨h1,h3,r,rfl,(qtw h1 h3 h4 hc).2⟩
 ·rw [(qly h1).1] at h;exact absurd h h1
/-! ### FilesFind -/
theorem qgy (fs:List Fl) (s:List UInt8):isF fs s=true↔∃l,(s,l)∈fs:=by
 unfold isF;rw [List.any_eq_true]
 constructor
 ·rintro ⟨f,hf,e⟩
  obtain ⟨f1,f2⟩:=f
  have e:f1=s:=by simpa using e
  subst e;exact ⟨f2,hf⟩
 ·rintro ⟨l,hl⟩
  exact ⟨_,hl,by simp⟩
theorem qwe {fs:List Fl} {s:List UInt8} (h:isF fs s=false):∀f∈fs,f.1≠s:=by
 intro f hf e
 have:isF fs s=true:=(qgy fs s).2 ⟨f.2,by rw [←e];exact hf⟩
 rw [h] at this;cases this
theorem qf8 {fs:List Fl} (hr:qcf fs) {s:List UInt8} {l:List Ex} (h:(s,l)∈fs):getF fs s=l:=by
 obtain ⟨t,ht,e⟩:=List.mem_iff_getElem.1 h;rw [qwd hr ht (by rw [e]),e]
theorem qqy {fs:List Fl} (hr:qcf fs) {s:List UInt8} (h:isF fs s=true):(s,getF fs s)∈fs:=by
 obtain ⟨l,hl⟩:=(qgy fs s).1 h
 rw [qf8 hr hl];exact hl
theorem qm7 (fs:List Fl) (f:Fl):(insF fs f).Perm (f::fs):=by
 unfold insF
 refine List.perm_middle.trans ?_
 rw [List.take_append_drop]
theorem ins_mem {fs:List Fl} {f g:Fl}:g∈insF fs f↔g=f∨g∈fs:=by
 rw [(qm7 fs f).mem_iff,List.mem_cons]
theorem qqz (fs:List Fl) (f:Fl):(insF fs f).length=fs.length+1:=by rw [(qm7 fs f).length_eq,List.length_cons]
theorem qse {fs:List Fl} (hr:qcf fs) {f:Fl} (h:isF fs f.1=false):qcf (insF fs f):=by
 have hlt:=qm5 hr f.1;have hne:=qwe h;have e:fs=fs.take (posF fs f.1)++fs.drop (posF fs f.1):=(List.take_append_drop _ fs).symm;have hr':=hr;rw [e] at hr';unfold qcf at hr';rw [List.pairwise_append] at hr';unfold qcf insF;rw [List.pairwise_append,List.pairwise_cons]
 have hb:∀a∈fs.take (posF fs f.1),ltN a.1 f.1=true:=by
  intro a ha;obtain ⟨t,ht,rfl⟩:=List.mem_iff_getElem.1 ha;rw [List.length_take] at ht;rw [List.getElem_take];exact (hlt t (by omega)).1 (by omega)
 refine ⟨hr'.1,⟨?_,hr'.2.1⟩, ?_⟩
 ·intro g hg
  obtain ⟨t,ht,rfl⟩:=List.mem_iff_getElem.1 hg;rw [List.length_drop] at ht;rw [List.getElem_drop];refine qj9 _ _ ((hlt _ (by omega)).2 (by omega)) (hne _ (List.getElem_mem _))
 ·intro a ha g hg
  rcases List.mem_cons.1 hg with rfl | hg
  ·exact hb a ha
  ·exact hr'.2.2 a ha g hg
theorem qo4 {fs gs:List Fl} (h:fs.Perm gs):(qat fs).Perm (qat gs):=List.Perm.flatMap_right _ h
theorem qwf (l:List Ex):apX l=true↔l.Pairwise fun x y=>qgx x y=false:=by
 induction hn:l.length generalizing l with
 | zero=>
  obtain rfl:=List.eq_nil_of_length_eq_zero hn
  simp [apX]
 | succ n ih=>
  rcases List.eq_nil_or_concat l with rfl | ⟨r,x,rfl⟩
  ·simp at hn
  ·rw [List.concat_eq_append] at hn ⊢
   rw [qjj,List.pairwise_append,Bool.and_eq_true,ih r (by simpa using hn),List.all_eq_true]
   simp only [List.pairwise_cons,List.not_mem_nil,false_implies,implies_true,List.Pairwise.nil,and_self,true_and,List.mem_singleton,forall_eq]
   refine and_congr_right fun _=>forall_congr' fun y=>forall_congr' fun _=>?_
   rw [qlw x y]
   cases qgx y x<;>simp
theorem qzl {l m:List Ex} (h:l.Perm m) (hl:apX l=true):apX m=true:=by
 rw [qwf] at hl ⊢;exact (h.pairwise_iff (fun {a b} hab=>by rw [qlw];exact hab)).1 hl
theorem qkb {l m:List Ex} {b:Int} (h:l.Perm m) (hl:extP l b):extP m b:=by
 obtain ⟨h1,h2,h3⟩:=extP_parts.1 hl;refine extP_parts.2 ⟨qzl h h1, ?_,fun x hx=>h3 x (h.mem_iff.2 hx)⟩;obtain ⟨k1,k2⟩:=qdy h2
 exact qj5 (by rw [←h.length_eq];exact k1) fun x hx=>k2 x (h.mem_iff.2 hx)
theorem qm8 {l m:List Ex} {b:Int} (h:l.Sublist m) (hm:extP m b):extP l b:=by
 obtain ⟨h1,h2,h3⟩:=extP_parts.1 hm;obtain ⟨k1,k2⟩:=qdy h2;refine extP_parts.2 ⟨?_,qj5 (Nat.le_trans h.length_le k1) fun x hx=>k2 x (h.subset hx),fun x hx=>h3 x (h.subset hx)⟩;rw [qwf] at h1 ⊢;exact h1.sublist h
theorem qm9 {fs gs:List Fl} (h:fs.Sublist gs):(qat fs).Sublist (qat gs):=by
 unfold qat
 induction h with
 | slnil=>exact List.Sublist.refl _
 | cons a _ ih=>rw [List.flatMap_cons];exact ih.trans (List.sublist_append_right _ _)
 | cons_cons a _ ih=>rw [List.flatMap_cons,List.flatMap_cons];exact (List.Sublist.refl _).append ih
theorem qgz {a b:Nat} (h:a≤b):(sm a).length≤(sm b).length:=by
 induction b using Nat.strongRecOn generalizing a with
 | ind b ih=>
  rcases Nat.lt_or_ge a 128 with ha | ha
  ·rw [qqk ha];exact qu6 b
  ·rw [qql ha,qql (by omega:128≤b),List.length_cons,List.length_cons]
   have:=ih (b / 128) (by omega) (a:=a / 128) (by omega)
   omega
theorem qacj {fs gs:List Fl} (h:fs.Sublist gs):(bytF fs).length≤(bytF gs).length:=by
 unfold bytF;rw [List.length_append,List.length_append];have h1:=qgz h.length_le
 have h2:(fs.flatMap qcx).length≤(gs.flatMap qcx).length:=by
  induction h with
  | slnil=>exact Nat.le_refl _
  | cons a h ih=>rw [List.flatMap_cons,List.length_append];have:=ih (qgz h.length_le);omega
  | cons_cons a h ih=>rw [List.flatMap_cons,List.flatMap_cons,List.length_append,List.length_append];have:=ih (qgz h.length_le);omega
 omega
theorem qsf {fs gs:List Fl} {b:Int} (h:fs.Sublist gs) (hg:mayF gs b):mayF fs b:=by
 refine ⟨Nat.le_trans h.length_le hg.1,⟨fun f hf=>hg.2.1.1 f (h.subset hf),hg.2.1.2.sublist h⟩,qm8 (qm9 h) hg.2.2.1,Nat.le_trans (qacj h) hg.2.2.2⟩
theorem qe0 (fs:List Fl) (s:List UInt8):(delF fs s).Sublist fs:=List.filter_sublist
theorem qq0 (fs:List Fl) (s:List UInt8):isF (delF fs s) s=false:=by
 unfold isF delF;rw [List.any_eq_false];intro f hf
 have:=(List.mem_filter.1 hf).2
 simpa using this
def qje (fs:List Fl) (x y:List UInt8):List Fl:=fs.filter fun f=>!(f.1==x) && !(f.1==y)
theorem qsg {fs:List Fl} {f:Fl} {x y:List UInt8} (h:f.1=x∨f.1=y):qje (insF fs f) x y=qje fs x y:=by
 unfold qje insF;rw [List.filter_append,List.filter_cons_of_neg (by rcases h with h | h<;>simp [h]),←List.filter_append,List.take_append_drop]
theorem qna {fs:List Fl} {s x y:List UInt8} (h:s=x∨s=y):qje (delF fs s) x y=qje fs x y:=by
 unfold qje delF;rw [List.filter_filter]
 congr 1
 funext f
 cases e1:f.1==x<;>cases e2:f.1==y<;>cases e3:f.1==s<;>simp
 all_goals
  have e3:f.1=s:=by simpa using e3
  rcases h with h | h<;>simp_all
theorem qwg {fs:List Fl} (h:fitE fs=0):(bytF fs).length≤2048:=by
 unfold fitE at h
 split at h
 ·assumption
 ·omega
theorem qf9 {fs:List Fl} {s:List UInt8} {l:List Ex} {b:Int} (h:qay fs s l b=0):chkF fs b=0∧qbx s=true∧isF fs s=false∧l≠[]∧extP (qat fs++l) b∧fs.length≠40∧l.length≤64∧(bytF (insF fs (s,l))).length≤2048:=by
 unfold qay at h
 by_cases h1:chkF fs b=0
 ·rw [if_neg (by simpa using h1)] at h
  cases h2:qbx s with
  | false=>rw [if_pos h2] at h;omega
  | true=>
   rw [if_neg (by simp [h2])] at h
   cases h3:isF fs s with
   | true=>rw [if_pos h3] at h;omega
   | false=>
    rw [if_neg (by simp [h3])] at h
    by_cases h4:l=[]∨¬extP (qat fs++l) b
    ·rw [if_pos h4] at h;omega
    ·rw [if_neg h4] at h
     by_cases h5:fs.length=40∨64<l.length
     ·rw [if_pos h5] at h;omega
     ·rw [if_neg h5] at h
      refine ⟨h1,rfl,rfl,fun e=>h4 (.inl e), ?_,fun e=>h5 (.inl e),by omega,qwg h⟩
      by_cases h6:extP (qat fs++l) b
      ·exact h6
      ·exact absurd (.inr h6) h4
 ·rw [if_pos h1] at h;exact absurd h h1
theorem qnb (fs:List Fl) (f:Fl):(qat (insF fs f)).Perm (qat fs++f.2):=by
 refine (qo4 (qm7 fs f)).trans ?_
 unfold qat;rw [List.flatMap_cons];exact List.perm_append_comm
theorem qkc {fs:List Fl} {s:List UInt8} {l:List Ex} {b:Int} (h:qay fs s l b=0):mayF (insF fs (s,l)) b:=by
 obtain ⟨h1,h2,h3,h4,h5,h6,h7,h8⟩:=qf9 h;obtain ⟨g1,g2⟩:=qig h1;refine ⟨?_,⟨?_,qse g2.2.1.2 h3⟩,qkb (qnb fs (s,l)).symm h5,h8⟩
 ·rw [qqz];have:=g2.1;omega
 ·intro f hf
  rcases ins_mem.1 hf with rfl | hf
  ·simp only [oneF,Bool.and_eq_true,decide_eq_true_eq]
   refine ⟨⟨h2, ?_⟩,h7⟩
   cases l with
   | nil=>exact absurd rfl h4
   | cons _ _=>simp
  ·exact g2.2.1.1 f hf
theorem qhh {fs:List Fl} {s:List UInt8} {b:Int} (h:chkF fs b=0) (h1:qbx s=true) (h2:isF fs s=true):qao fs s=0∧qfp fs s=(s,getF fs s):=by
 have e:qao fs s=0:=by
  unfold qao;rw [if_neg (by simpa using qhg h),if_neg (by simp [h1]),if_pos h2]
 exact ⟨e,by unfold qfp;rw [if_pos e]⟩
theorem qii {fs:List Fl} {s:List UInt8} {b:Int} (h:chkF fs b=0) (h1:qbx s=true) (h2:isF fs s=false):qao fs s=6:=by
 unfold qao;rw [if_neg (by simpa using qhg h),if_neg (by simp [h1]),if_neg (by simp [h2])]
theorem qga {fs:List Fl} {s:List UInt8} (h:qao fs s=0):chkF fs 4096=0∧qbx s=true∧isF fs s=true:=by
 unfold qao at h
 by_cases h1:chkF fs 4096=0
 ·rw [if_neg (by simpa using h1)] at h
  cases h2:qbx s with
  | false=>rw [if_pos h2] at h;omega
  | true=>
   rw [if_neg (by simp [h2])] at h
   cases h3:isF fs s with
   | true=>exact ⟨h1,rfl,rfl⟩
   | false=>rw [if_neg (by simp [h3])] at h;omega
 ·rw [if_pos h1] at h;exact absurd h h1
theorem qg0 {fs:List Fl} {s t:List UInt8} (h:qa6 fs s t=0):chkF fs 4096=0∧qbx s=true∧qbx t=true∧isF fs s=true∧(bytF (renF fs s t)).length≤2048:=by
 unfold qa6 at h
 by_cases h1:chkF fs 4096=0
 ·rw [if_neg (by simpa using h1)] at h
  by_cases h2:qbx s=false∨qbx t=false
  ·rw [if_pos h2] at h;omega
  ·rw [if_neg h2] at h
   cases h3:isF fs s with
   | false=>rw [if_neg (by simp [h3])] at h;omega
   | true=>
    rw [if_pos h3] at h
    simp at h2
    exact ⟨h1,h2.1,h2.2,rfl,qwg h⟩
 ·rw [if_pos h1] at h;exact absurd h h1
theorem qq1 {fs:List Fl} {s:List UInt8} {l:List Ex} {b:Int} (h:qay fs s l b=0):
  qao fs s=6∧chkF (insF fs (s,l)) b=0∧qao (insF fs (s,l)) s=0∧qfp (insF fs (s,l)) s=(s,l)∧qje (insF fs (s,l)) s s=qje fs s s∧(insF fs (s,l)).length=fs.length+1:=by
 obtain ⟨h1,h2,h3,h4,h5,h6,h7,h8⟩:=qf9 h;obtain ⟨g1,g2⟩:=qig h1;have hm:=qkc h;have hc:=qih g1 hm;have hin:(s,l)∈insF fs (s,l):=ins_mem.2 (.inl rfl);obtain ⟨t1,t2⟩:=qhh hc h2 ((qgy _ _).2 ⟨l,hin⟩);rw [qf8 hm.2.1.2 hin] at t2;exact ⟨qii h1 h2 h3,hc,t1,t2,qsg (.inl rfl),qqz _ _⟩
theorem qq2 {fs:List Fl} {s:List UInt8} {b:Int} (hb:chkF fs b=0) (h:qao fs s=0):
  chkF (delF fs s) b=0∧qao (delF fs s) s=6∧qje (delF fs s) s s=qje fs s s:=by
 obtain ⟨h1,h2,h3⟩:=qga h;obtain ⟨g1,g2⟩:=qig hb;have hc:=qih g1 (qsf (qe0 fs s) g2);exact ⟨hc,qii hc h2 (qq0 fs s),qna (.inl rfl)⟩
theorem qzm {fs:List Fl} (hr:qcf fs) {s:List UInt8} (h:isF fs s=true):fs.Perm ((s,getF fs s)::delF fs s):=by
 induction fs with
 | nil=>simp [isF] at h
 | cons f r ih=>
  have hr':qcf r:=(List.pairwise_cons.1 hr).2;have hf:=(List.pairwise_cons.1 hr).1
  by_cases e:f.1=s
  ·have hg:getF (f::r) s=f.2:=qf8 hr (by subst e;exact List.mem_cons_self ..)
   have hd:delF (f::r) s=r:=by
    unfold delF;rw [List.filter_cons_of_neg (by simp [e])];rw [List.filter_eq_self];intro g hg
    have:=qv7 (hf g hg)
    rw [e] at this
    simp [Ne.symm this]
   rw [hg,hd];subst e;exact List.Perm.refl _
  ·have h':isF r s=true:=by
    unfold isF at h ⊢;rw [List.any_cons] at h
    simpa [e] using h
   have hg:getF (f::r) s=getF r s:=by
    have:=qqy hr' h'
    exact qf8 hr (List.mem_cons_of_mem _ this)
   have hd:delF (f::r) s=f::delF r s:=by
    unfold delF;rw [List.filter_cons_of_pos (by simp [e])]
   rw [hg,hd];exact ((ih hr' h').cons f).trans (List.Perm.swap _ _ _)
theorem qkd {fs:List Fl} {s t:List UInt8} {b:Int} (hb:mayF fs b) (h:qa6 fs s t=0):mayF (renF fs s t) b:=by
 obtain ⟨h1,h2,h3,h4,h5⟩:=qg0 h;have hr:=hb.2.1.2;have hp:=qzm hr h4;have hsub:(delF (delF fs s) t).Sublist (delF fs s):=qe0 _ _;refine ⟨?_,⟨?_,qse (qhf (qhf hr s) t) (qq0 _ _)⟩, ?_,h5⟩
 ·unfold renF
  rw [qqz];have e1:=hp.length_eq;rw [List.length_cons] at e1;have e2:=hsub.length_le
  have:=hb.1
  omega
 ·intro f hf
  rcases ins_mem.1 hf with rfl | hf
  ·have:=hb.2.1.1 _ (qqy hr h4)
   simp only [oneF,Bool.and_eq_true] at this ⊢
   exact ⟨⟨h3,this.1.2⟩,this.2⟩
  ·exact hb.2.1.1 f ((qe0 fs s).subset (hsub.subset hf))
 ·have e1:=qnb (delF (delF fs s) t) (t,getF fs s)
  have e2:(qat fs).Perm (qat (delF fs s)++getF fs s):=(qo4 hp).trans (by unfold qat;rw [List.flatMap_cons];exact List.perm_append_comm);have e3:=qkb e2 hb.2.2.1;exact qkb e1.symm (qm8 ((qm9 hsub).append (List.Sublist.refl _)) e3)
theorem qq3 {fs:List Fl} {s t:List UInt8} {b:Int} (hb:chkF fs b=0) (h:qa6 fs s t=0):
  qao fs s=0∧qfp fs s=(s,getF fs s)∧chkF (renF fs s t) b=0∧qao (renF fs s t) t=0∧qfp (renF fs s t) t=(t,getF fs s)∧(s≠t→qao (renF fs s t) s=6)∧qje (renF fs s t) s t=qje fs s t:=by
 obtain ⟨h1,h2,h3,h4,h5⟩:=qg0 h;obtain ⟨g1,g2⟩:=qig hb;have hm:=qkd g2 h;have hc:=qih g1 hm;have hin:(t,getF fs s)∈renF fs s t:=ins_mem.2 (.inl rfl);obtain ⟨t1,t2⟩:=qhh hc h3 ((qgy _ _).2 ⟨_,hin⟩);rw [qf8 hm.2.1.2 hin] at t2;obtain ⟨u1,u2⟩:=qhh hb h2 h4;refine ⟨u1,u2,hc,t1,t2,fun hne=>qii hc h2 ?_, ?_⟩
 ·cases e:isF (renF fs s t) s with
  | false=>rfl
  | true=>
   obtain ⟨l,hl⟩:=(qgy _ _).1 e
   rcases ins_mem.1 hl with e | hl
   ·injection e with e1 _;exact absurd e1 hne
   ·have:=qwe (qq0 fs s) _ ((qe0 _ _).subset hl)
    simp at this
 ·unfold renF
  rw [qsg (.inr rfl),qna (.inr rfl),qna (.inl rfl)]
theorem qabc {fs:List Fl} (h:∀f∈fs,∀x∈f.2,wfX x) {f:Fl} (hf:∀x∈f.2,wfX x):∀g∈insF fs f,∀x∈g.2,wfX x:=by
 intro g hg
 rcases ins_mem.1 hg with rfl | hg
 ·exact hf
 ·exact h g hg
theorem qwh {fs:List Fl} (h:∀f∈fs,∀x∈f.2,wfX x) (s:List UInt8):∀g∈delF fs s,∀x∈g.2,wfX x:=fun g hg=>h g ((qe0 fs s).subset hg)
theorem wf_ren {fs:List Fl} (h:∀f∈fs,∀x∈f.2,wfX x) (s t:List UInt8):∀g∈renF fs s t,∀x∈g.2,wfX x:=by
 refine qabc (qwh (qwh h s) t) ?_
 show ∀x∈getF fs s,wfX x
 unfold getF;intro x hx
 cases e:fs.find? (fun f=>f.1==s) with
 | none=>rw [e] at hx;simp at hx
 | some f=>rw [e] at hx;exact h f (List.mem_of_find?_eq_some e) x (by simpa using hx)
end Go.Proofs.YtpkdiododlhipaaGreat
