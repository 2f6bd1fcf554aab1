/-
  Layer 5 in plain words: blocks apart, counted; directories made, deleted, renamed may be.
-/
import Derived.Test.YtnmbbpdhjkaidaaGreatMathRm
import Derived.Test.YtnmbbpdhjkaidaaGreatMathRd
import Derived.Lib.Bytealg
namespace Go.Proofs.YtnmbbpdhjkaidaaGreat
open Go.RowKit
set_option linter.all false
abbrev Fl:=List UInt8 × List Ex
/-! ### names -/
def ltN:List UInt8→List UInt8→Bool
 | [],[]=>false
 | [],_::_=>true
 | _::_,[]=>false
 | a::s,b::t=>decide (a<b) || ((a==b) && ltN s t)
theorem qac3:∀a b:List UInt8,Op.bytesLess a b=ltN a b
 | [],[]=>by simp [Op.bytesLess,ltN]
 | [],_::_=>by simp [Op.bytesLess,ltN]
 | _::_,[]=>by simp [Op.bytesLess,ltN]
 | a::s,b::t=>by simp [Op.bytesLess,ltN,qac3 s t]
theorem qec:∀a:List UInt8,ltN a a=false
 | []=>rfl
 | a::s=>by simp [ltN,qec s,UInt8.lt_irrefl]
theorem qe7:∀a b c:List UInt8,ltN a b=true→ltN b c=true→ltN a c=true
 | [],[],_,h,_=>by simp [ltN] at h
 | [],_::_,[],_,h=>by simp [ltN] at h
 | [],_::_,_::_,_,_=>rfl
 | _::_,[],_,h,_=>by simp [ltN] at h
 | _::_,_::_,[],_,h=>by simp [ltN] at h
 | a::s,b::t,c::u,h,k=>by
  simp only [ltN,Bool.or_eq_true,Bool.and_eq_true,decide_eq_true_eq,beq_iff_eq] at h k ⊢
  rcases h with h | ⟨rfl,h⟩
  ·rcases k with k | ⟨rfl,k⟩
   ·exact .inl (UInt8.lt_trans h k)
   ·exact .inl h
  ·rcases k with k | ⟨rfl,k⟩
   ·exact .inl k
   ·exact .inr ⟨rfl,qe7 s t u h k⟩
theorem qks:∀a b:List UInt8,ltN a b=false→a≠b→ltN b a=true
 | [],[],_,h=>absurd rfl h
 | [],_::_,h,_=>by simp [ltN] at h
 | _::_,[],_,_=>rfl
 | a::s,b::t,h,hne=>by
  simp only [ltN,Bool.or_eq_false_iff,Bool.and_eq_false_iff,decide_eq_false_iff_not,Bool.or_eq_true,Bool.and_eq_true,decide_eq_true_eq,beq_iff_eq] at h ⊢
  obtain ⟨h1,h2⟩:=h
  by_cases e:a=b
  ·subst e
   refine .inr ⟨rfl,qks s t ?_ (fun e=>hne (by rw [e]))⟩
   rcases h2 with h2 | h2
   ·simp at h2
   ·exact h2
  ·left
   have h3:¬a.toNat<b.toNat:=fun h=>h1 (UInt8.lt_iff_toNat_lt.2 h)
   have h4:a.toNat≠b.toNat:=fun h=>e (UInt8.toNat_inj.1 h)
   exact UInt8.lt_iff_toNat_lt.2 (by omega)
theorem qwv {a b:List UInt8} (h:ltN a b=true):ltN b a=false:=by
 cases k:ltN b a with
 | false=>rfl
 | true=>have:=qe7 a b a h k;rw [qec] at this;cases this
theorem qac4 {a b:List UInt8} (h:ltN a b=true):a≠b:=by rintro rfl;rw [qec] at h;cases h
theorem qq9:∀a b:List UInt8,(Lib.compareBytes a b<0↔ltN a b=true)∧(Lib.compareBytes a b=0↔a=b)
 | [],[]=>by simp [Lib.compareBytes,ltN]
 | [],_::_=>by simp [Lib.compareBytes,ltN]
 | _::_,[]=>by simp [Lib.compareBytes,ltN]
 | a::s,b::t=>by
  have ih:=qq9 s t
  by_cases h1:a<b
  ·have hne:a≠b:=by rintro rfl;exact UInt8.lt_irrefl _ h1
   simp [Lib.compareBytes,ltN,h1,hne]
  ·by_cases h2:b<a
   ·have hne:a≠b:=by rintro rfl;exact UInt8.lt_irrefl _ h2
    simp [Lib.compareBytes,ltN,h1,h2,hne]
   ·have e:a=b:=by
     have h3:¬a.toNat<b.toNat:=fun h=>h1 (UInt8.lt_iff_toNat_lt.2 h)
     have h4:¬b.toNat<a.toNat:=fun h=>h2 (UInt8.lt_iff_toNat_lt.2 h)
     exact UInt8.toNat_inj.1 (by omega)
    subst e
    simp [Lib.compareBytes,ltN,UInt8.lt_irrefl,ih.1,ih.2]
def qdw (s:List UInt8):Bool:=decide (1≤s.length) && decide (s.length≤16)
/-! ### files -/
def qay (fs:List Fl):List Ex:=fs.flatMap (·.2)
def bytX (x:Ex):List UInt8:=sm x.1.toNat++sm x.2.toNat
def bytE (l:List Ex):List UInt8:=l.flatMap bytX
def qdx (f:Fl):List UInt8:=tx f.1++(sm f.2.length++bytE f.2)
def bytF (fs:List Fl):List UInt8:=sm fs.length++fs.flatMap qdx
def oneF (f:Fl):Bool:=qdw f.1 && decide (1≤f.2.length) && decide (f.2.length≤64)
def qdy (fs:List Fl):Prop:=fs.Pairwise fun f g=>ltN f.1 g.1=true
instance (fs:List Fl):Decidable (qdy fs):=inferInstanceAs (Decidable (fs.Pairwise _))
def qex (fs:List Fl):Prop:=(∀f∈fs,oneF f=true)∧qdy fs
instance (fs:List Fl):Decidable (qex fs):=inferInstanceAs (Decidable (_∧_))
def extP (l:List Ex) (b:Int):Prop:=chkX l=0∧∀x∈l,34≤x.1∧x.1+x.2≤b
instance (l:List Ex) (b:Int):Decidable (extP l b):=inferInstanceAs (Decidable (_∧_))
def mayF (fs:List Fl) (b:Int):Prop:=fs.length≤40∧qex fs∧extP (qay fs) b∧(bytF fs).length≤2048
instance (fs:List Fl) (b:Int):Decidable (mayF fs b):=inferInstanceAs (Decidable (_∧_))
def blkP (b:Int):Prop:=34<b∧b≤4096
instance (b:Int):Decidable (blkP b):=inferInstanceAs (Decidable (_∧_))
def chkF (fs:List Fl) (b:Int):Int:=if ¬blkP b then 2 else if mayF fs b then 0 else 8
def posF (fs:List Fl) (s:List UInt8):Nat:=fs.countP fun f=>ltN f.1 s
def isF (fs:List Fl) (s:List UInt8):Bool:=fs.any fun f=>f.1==s
def getF (fs:List Fl) (s:List UInt8):List Ex:=((fs.find? fun f=>f.1==s).map (·.2)).getD []
def insF (fs:List Fl) (f:Fl):List Fl:=fs.take (posF fs f.1)++f::fs.drop (posF fs f.1)
def qba (fs:List Fl) (s:List UInt8):Int:=if chkF fs 4096≠0 then chkF fs 4096 else if qdw s=false then 50 else if isF fs s then 0 else 6
def qhd (fs:List Fl) (s:List UInt8):Fl:=if qba fs s=0 then (s,getF fs s) else ([],[])
def fitE (fs:List Fl):Int:=if (bytF fs).length≤2048 then 0 else 40
def qa5 (fs:List Fl) (s:List UInt8) (l:List Ex) (b:Int):Int:=
 if chkF fs b≠0 then chkF fs b else if qdw s=false then 50 else if isF fs s then 51 else if l=[]∨¬extP (qay fs++l) b then 8
 else if fs.length=40∨64<l.length then 40 else fitE (insF fs (s,l))
def qdg (fs:List Fl) (s:List UInt8) (l:List Ex) (b:Int):List Fl:=if qa5 fs s l b=0 then insF fs (s,l) else []
def qfh (fs:List Fl):List Ex:=if chkF fs 4096=0 then qay fs else []
def qei (fs:List Fl) (b:Int):List UInt8:=if chkF fs b=0 then bytF fs else []
theorem qun (fs:List Fl) (k:Nat) (h:k<fs.length):qay (fs.take (k+1))=qay (fs.take k)++(fs[k]).2:=by
 unfold qay;rw [List.take_succ_eq_append_getElem h,List.flatMap_append]
 simp
theorem qww (fs:List Fl) (k:Nat) (h:k<fs.length):(fs.take (k+1)).flatMap qdx=(fs.take k).flatMap qdx++qdx fs[k]:=by
 rw [List.take_succ_eq_append_getElem h,List.flatMap_append]
 simp
theorem qwx (l:List Ex) (k:Nat) (h:k<l.length):bytE (l.take (k+1))=bytE (l.take k)++bytX l[k]:=by
 unfold bytE;rw [List.take_succ_eq_append_getElem h,List.flatMap_append]
 simp
theorem qup {fs:List Fl} {f:Fl} (h:qdy (fs++[f])):qdy fs∧∀g∈fs,ltN g.1 f.1=true:=by
 unfold qdy at h;rw [List.pairwise_append] at h;exact ⟨h.1,fun g hg=>h.2.2 g hg f (by simp)⟩
theorem qwy {fs:List Fl} {f:Fl} (h:qdy fs) (hk:fs=[]∨∃p g,fs=p++[g]∧ltN g.1 f.1=true):qdy (fs++[f]):=by
 unfold qdy;rw [List.pairwise_append];refine ⟨h,by simp, ?_⟩;intro g hg x hx
 obtain rfl:x=f:=by simpa using hx
 rcases hk with rfl | ⟨p,y,rfl,hy⟩
 ·simp at hg
 ·rcases List.mem_append.1 hg with hg | hg
  ·exact qe7 _ _ _ ((qup h).2 g hg) hy
  ·obtain rfl:g=y:=by simpa using hg
   exact hy
theorem qwz:qex []:=⟨by simp,List.Pairwise.nil⟩
theorem qdp {α:Type} (l:List α) (k:Nat) (h:k<l.length):l.take (k+1)=l.take k++[l[k]]:=List.take_succ_eq_append_getElem h
theorem qiq {fs:List Fl} {k:Nat} (h:k<fs.length) (hb:oneF fs[k]=false):¬qex fs:=fun e=>by
 have:=e.1 fs[k] (List.getElem_mem h);rw [hb] at this;cases this
theorem quq {fs:List Fl} {k:Nat} (h:k+1<fs.length) (hb:ltN (fs[k]).1 (fs[k+1]).1=false):¬qex fs:=fun e=>by
 have:=List.pairwise_iff_getElem.1 e.2 k (k+1) (by omega) h (by omega);rw [hb] at this;cases this
theorem qmk {fs:List Fl} {k:Nat} (h:k<fs.length) (he:qex (fs.take k)) (ho:oneF fs[k]=true) (hl:∀j,(hj:j+1=k)→ltN (fs[j]).1 (fs[k]).1=true):qex (fs.take (k+1)):=by
 rw [qdp fs k h];refine ⟨?_,qwy he.2 ?_⟩
 ·intro f hf
  rcases List.mem_append.1 hf with hf | hf
  ·exact he.1 f hf
  ·obtain rfl:f=fs[k]:=by simpa using hf
   exact ho
 ·cases k with
  | zero=>left;simp
  | succ j=>
   right
   exact ⟨fs.take j,fs[j],qdp fs j (by omega),hl j rfl⟩
theorem qgs {f:Fl} (h:oneF f=true):1≤f.1.length∧f.1.length≤16∧1≤f.2.length∧f.2.length≤64:=by
 simp only [oneF,qdw,Bool.and_eq_true,decide_eq_true_eq] at h
 omega
theorem qaec {fs:List Fl} {s:List UInt8} {i:Nat} (hi:i≤fs.length) (h1:∀t,(h:t<fs.length)→t<i→ltN (fs[t]).1 s=true) (h2:∀t,(h:t<fs.length)→i≤t→ltN (fs[t]).1 s=false):posF fs s=i:=by
 have e:fs=fs.take i++fs.drop i:=(List.take_append_drop i fs).symm;unfold posF;rw [e,List.countP_append]
 have a1:(fs.take i).countP (fun f=>ltN f.1 s)=i:=by
  have:(fs.take i).countP (fun f=>ltN f.1 s)=(fs.take i).length:=by
   rw [List.countP_eq_length];intro f hf;obtain ⟨t,ht,rfl⟩:=List.mem_iff_getElem.1 hf;rw [List.length_take] at ht;rw [List.getElem_take];exact h1 t (by omega) (by omega)
  rw [this,List.length_take];omega
 have a2:(fs.drop i).countP (fun f=>ltN f.1 s)=0:=by
  rw [List.countP_eq_zero];intro f hf;obtain ⟨t,ht,rfl⟩:=List.mem_iff_getElem.1 hf;rw [List.length_drop] at ht;rw [List.getElem_drop]
  simp [h2 (i+t) (by omega) (by omega)]
 omega
theorem qw0 (fs:List Fl) (s:List UInt8):posF fs s≤fs.length:=List.countP_le_length
theorem qju {fs:List Fl} (h:qdy fs) {i j:Nat} (hij:i<j) (hj:j<fs.length):ltN (fs[i]).1 (fs[j]).1=true:=List.pairwise_iff_getElem.1 h i j (by omega) hj hij
theorem qnp {fs:List Fl} (hr:qdy fs) (s:List UInt8):∀t,(h:t<fs.length)→(t<posF fs s→ltN (fs[t]).1 s=true)∧(posF fs s≤t→ltN (fs[t]).1 s=false):=by
 induction fs with
 | nil=>intro t h;simp at h
 | cons f r ih=>
  have hr':qdy r:=(List.pairwise_cons.1 hr).2;have hf:=(List.pairwise_cons.1 hr).1;intro t h
  cases hl:ltN f.1 s with
  | true=>
   have e:posF (f::r) s=posF r s+1:=by unfold posF;rw [List.countP_cons];simp [hl]
   rw [e]
   cases t with
   | zero=>exact ⟨fun _=>hl,fun h=>by omega⟩
   | succ t=>
    have:=ih hr' t (by simpa using h)
    simp only [List.getElem_cons_succ]
    exact ⟨fun h=>this.1 (by omega),fun h=>this.2 (by omega)⟩
  | false=>
   have z:∀g∈f::r,ltN g.1 s=false:=by
    intro g hg
    rcases List.mem_cons.1 hg with rfl | hg
    ·exact hl
    ·cases k:ltN g.1 s with
     | false=>rfl
     | true=>have:=qe7 _ _ _ (hf g hg) k;rw [hl] at this;cases this
   have e:posF (f::r) s=0:=by
    unfold posF;rw [List.countP_eq_zero];intro g hg
    simp [z g hg]
   rw [e];exact ⟨fun h=>by omega,fun _=>z _ (List.getElem_mem h)⟩
theorem qac5 {fs:List Fl} (hr:qdy fs) (s:List UInt8):isF fs s=(if h:posF fs s<fs.length then (fs[posF fs s]).1==s else false):=by
 by_cases h:posF fs s<fs.length
 ·rw [dif_pos h]
  cases hq:(fs[posF fs s]).1==s with
  | true=>unfold isF;rw [List.any_eq_true];exact ⟨_,List.getElem_mem h,hq⟩
  | false=>
   unfold isF;rw [List.any_eq_false];intro g hg;obtain ⟨t,ht,rfl⟩:=List.mem_iff_getElem.1 hg;intro e
   have e:(fs[t]).1=s:=by simpa using e
   have p:=qnp hr s t ht
   have h1:ltN (fs[t]).1 s=false:=by rw [e];exact qec s
   have h2:posF fs s≤t:=by
    rcases Nat.lt_or_ge t (posF fs s) with h | h
    ·rw [p.1 h] at h1;cases h1
    ·exact h
   rcases Nat.lt_or_eq_of_le h2 with h3 | h3
   ·have:=qju hr h3 ht
    rw [e] at this
    have:=(qnp hr s _ h).2 (Nat.le_refl _)
    simp_all
   ·subst h3;rw [e] at hq;simp at hq
 ·rw [dif_neg h]
  unfold isF;rw [List.any_eq_false];intro g hg;obtain ⟨t,ht,rfl⟩:=List.mem_iff_getElem.1 hg;intro e
  have e:(fs[t]).1=s:=by simpa using e
  have:=(qnp hr s t ht).1 (by omega)
  rw [e,qec] at this;cases this
theorem qw1 {fs:List Fl} (hr:qdy fs) {s:List UInt8} {t:Nat} (ht:t<fs.length) (e:(fs[t]).1=s):getF fs s=(fs[t]).2:=by
 have:fs.find? (fun f=>f.1==s)=some fs[t]:=by
  rw [List.find?_eq_some_iff_getElem];refine ⟨by simp [e],t,ht,rfl, ?_⟩;intro j hj
  have:=qju hr hj ht
  rw [e] at this
  have:=qac4 this
  simp [this]
 simp [getF,this]
theorem qaas {fs:List Fl} (hr:qdy fs) {s:List UInt8} (h:isF fs s=true):∃hp:posF fs s<fs.length,(fs[posF fs s]).1=s∧getF fs s=(fs[posF fs s]).2:=by
 rw [qac5 hr] at h
 by_cases hp:posF fs s<fs.length
 ·rw [dif_pos hp] at h
  have e:(fs[posF fs s]).1=s:=by simpa using h
  exact ⟨hp,e,qw1 hr hp e⟩
 ·rw [dif_neg hp] at h;cases h
/-! ### counting blocks -/
def cntB (p:Int→Bool) (a:Int):Nat→Int
 | 0=>0
 | k+1=>cntB p a k+if p (a+k) then 1 else 0
theorem qnq (p:Int→Bool) (a:Int):∀k:Nat,cntB p a k≤k
 | 0=>by simp [cntB]
 | k+1=>by
  have:=qnq p a k
  simp only [cntB]
  split<;>omega
theorem qnr {p q:Int→Bool} (a:Int):∀k:Nat,(∀i:Nat,i<k→p (a+i)=true→q (a+i)=false)→cntB (fun n=>p n || q n) a k=cntB p a k+cntB q a k
 | 0,_=>by simp [cntB]
 | k+1,h=>by
  have ih:=qnr (p:=p) (q:=q) a k fun i hi=>h i (by omega)
  have hk:=h k (by omega)
  simp only [cntB,ih]
  show (cntB p a k+cntB q a k+if (p (a+k) || q (a+k))=true then (1:Int) else 0)=_
  obtain ⟨x,hx⟩:∃x,x=p (a+k):=⟨_,rfl⟩;obtain ⟨y,hy⟩:∃y,y=q (a+k):=⟨_,rfl⟩
  simp only [←hx,←hy] at hk ⊢
  clear h ih hx hy
  cases x<;>cases y<;>simp at hk ⊢<;>omega
theorem qsn (x:Ex) (a:Int) (ha:a≤x.1) (hx:0≤x.2):∀k:Nat,cntB (inX x) a k=max 0 (min (k:Int) (x.1+x.2 - a) - (x.1 - a))
 | 0=>by simp [cntB];omega
 | k+1=>by
  have ih:=qsn x a ha hx k
  simp only [cntB,ih,inX]
  by_cases h1:x.1≤a+k
  ·by_cases h2:a+(k:Int)<x.1+x.2
   ·simp only [h1,h2,decide_true,Bool.and_self,if_true];omega
   ·simp only [h1,h2,decide_true,decide_false,Bool.and_false];simp;omega
  ·simp only [h1,decide_false,Bool.false_and];simp;omega
theorem qht {a:Int} {k:Nat}:∀l:List Ex,(∀x∈l,a≤x.1∧1≤x.2∧x.1+x.2≤a+k)→apX l=true→qbh l=cntB (inL l) a k
 | l,h,hp=>by
  rcases List.eq_nil_or_concat l with rfl | ⟨r,x,rfl⟩
  ·have:∀k,cntB (inL []) a k=0:=by
    intro k
    induction k with
    | zero=>rfl
    | succ k ih=>simp only [cntB,ih];simp [inL]
   rw [this];rfl
  ·rw [List.concat_eq_append] at h hp ⊢
   rw [qjt,Bool.and_eq_true] at hp;have ih:=qht r (fun y hy=>h y (by simp [hy])) hp.1
   have e:inL (r++[x])=fun n=>inL r n || inX x n:=by funext n;exact qgq r x n
   have hx:=h x (by simp);rw [qin,e,qnr,←ih,qsn x a hx.1 (by omega)]
   ·omega
   ·intro i hi hl
    obtain ⟨y,hy,hyn⟩:=List.any_eq_true.1 hl
    have:=List.all_eq_true.1 hp.2 y hy
    cases hq:inX x (a+i) with
    | false=>rfl
    | true=>
     have hy1:=h y (by simp [hy]);have hm:=(qnk (a:=x) (b:=y) (by omega) (by omega)).2 ⟨_,hq,hyn⟩
     simp [hm] at this
termination_by l=>l.length
decreasing_by subst_vars;simp [List.concat_eq_append]
/-! ### extents that may be -/
theorem extP_parts {l:List Ex} {b:Int}:extP l b↔(apX l=true∧allX l=0∧∀x∈l,34≤x.1∧x.1+x.2≤b):=by
 unfold extP
 constructor
 ·rintro ⟨h,k⟩
  obtain ⟨h1,h2⟩:=qnl h;exact ⟨h2,h1,k⟩
 ·rintro ⟨h1,h2,h3⟩
  exact ⟨qkp h2 h1,h3⟩
theorem qd8 {l:List Ex} {b:Int} (h:extP l b):∀x∈l,34≤x.1∧1≤x.2∧x.1+x.2≤b:=by
 intro x hx;obtain ⟨_,h2,h3⟩:=extP_parts.1 h
 have:=(qeg h2).2 x hx
 have:=h3 x hx
 omega
theorem qaed {l:List Ex} {b c:Int} (h:extP l b) (hbc:b≤c):extP l c:=⟨h.1,fun x hx=>by have:=h.2 x hx;omega⟩
theorem qaee {fs:List Fl} {b c:Int} (h:mayF fs b) (hbc:b≤c):mayF fs c:=⟨h.1,h.2.1,qaed h.2.2.1 hbc,h.2.2.2⟩
theorem qns {fs:List Fl} {b:Int} (h:chkF fs b=0):blkP b∧mayF fs b:=by
 unfold chkF at h
 by_cases h1:blkP b
 ·rw [if_neg (by simpa using h1)] at h
  by_cases h2:mayF fs b
  ·exact ⟨h1,h2⟩
  ·rw [if_neg h2] at h;omega
 ·rw [if_pos h1] at h;omega
theorem qnt {fs:List Fl} {b:Int} (h1:blkP b) (h2:mayF fs b):chkF fs b=0:=by
 unfold chkF;rw [if_neg (by simpa using h1),if_pos h2]
theorem qaat:blkP 4096:=⟨by omega,by omega⟩
theorem qjv {fs:List Fl} {b:Int} (h:chkF fs b=0):chkF fs 4096=0:=by
 obtain ⟨h1,h2⟩:=qns h;exact qnt qaat (qaee h2 h1.2)
/-! ### FilesApart -/
theorem qjw {a b:Int} {l:List Ex} {w:Int} (h:qd3 a b l w=0):qcv a b l=0∧1≤w∧∃r,cutX (qde a b l) w=some r∧qcl a b l w=r:=by
 by_cases h1:qcv a b l=0
 ·by_cases h2:w<1∨4096<w
  ·rw [(qhq h1 h2).1] at h;omega
  ·have h3:1≤w:=by omega
   have h4:w≤4096:=by omega
   cases hc:cutX (qde a b l) w with
   | none=>rw [(quh h1 h3 h4 hc).1] at h;omega
   | some r=>exact ⟨h1,h3,r,rfl,(qug h1 h3 h4 hc).2⟩
 ·rw [(qmg h1).1] at h;exact absurd h h1
/-! ### FilesFind -/
theorem qnu (fs:List Fl) (s:List UInt8):isF fs s=true↔∃l,(s,l)∈fs:=by
 unfold isF;rw [List.any_eq_true]
 constructor
 ·rintro ⟨f,hf,e⟩
  obtain ⟨f1,f2⟩:=f
  have e:f1=s:=by simpa using e
  subst e;exact ⟨f2,hf⟩
 ·rintro ⟨l,hl⟩
  exact ⟨_,hl,by simp⟩
theorem qaef {fs:List Fl} {s:List UInt8} (h:isF fs s=false):∀f∈fs,f.1≠s:=by
 intro f hf e
 have:isF fs s=true:=(qnu fs s).2 ⟨f.2,by rw [←e];exact hf⟩
 rw [h] at this;cases this
theorem qso {fs:List Fl} (hr:qdy fs) {s:List UInt8} {l:List Ex} (h:(s,l)∈fs):getF fs s=l:=by
 obtain ⟨t,ht,e⟩:=List.mem_iff_getElem.1 h;rw [qw1 hr ht (by rw [e]),e]
theorem qnv (fs:List Fl) (f:Fl):(insF fs f).Perm (f::fs):=by
 unfold insF
 refine List.perm_middle.trans ?_
 rw [List.take_append_drop]
theorem ins_mem {fs:List Fl} {f g:Fl}:g∈insF fs f↔g=f∨g∈fs:=by
 rw [(qnv fs f).mem_iff,List.mem_cons]
theorem qw2 (fs:List Fl) (f:Fl):(insF fs f).length=fs.length+1:=by rw [(qnv fs f).length_eq,List.length_cons]
theorem qaau {fs:List Fl} (hr:qdy fs) {f:Fl} (h:isF fs f.1=false):qdy (insF fs f):=by
 have hlt:=qnp hr f.1;have hne:=qaef h;have e:fs=fs.take (posF fs f.1)++fs.drop (posF fs f.1):=(List.take_append_drop _ fs).symm;have hr':=hr;rw [e] at hr';unfold qdy at hr';rw [List.pairwise_append] at hr';unfold qdy insF;rw [List.pairwise_append,List.pairwise_cons]
 have hb:∀a∈fs.take (posF fs f.1),ltN a.1 f.1=true:=by
  intro a ha;obtain ⟨t,ht,rfl⟩:=List.mem_iff_getElem.1 ha;rw [List.length_take] at ht;rw [List.getElem_take];exact (hlt t (by omega)).1 (by omega)
 refine ⟨hr'.1,⟨?_,hr'.2.1⟩, ?_⟩
 ·intro g hg
  obtain ⟨t,ht,rfl⟩:=List.mem_iff_getElem.1 hg;rw [List.length_drop] at ht;rw [List.getElem_drop];refine qks _ _ ((hlt _ (by omega)).2 (by omega)) (hne _ (List.getElem_mem _))
 ·intro a ha g hg
  rcases List.mem_cons.1 hg with rfl | hg
  ·exact hb a ha
  ·exact hr'.2.2 a ha g hg
theorem qw3 {fs gs:List Fl} (h:fs.Perm gs):(qay fs).Perm (qay gs):=List.Perm.flatMap_right _ h
theorem qw4 (l:List Ex):apX l=true↔l.Pairwise fun x y=>qjk x y=false:=by
 induction hn:l.length generalizing l with
 | zero=>
  obtain rfl:=List.eq_nil_of_length_eq_zero hn
  simp [apX]
 | succ n ih=>
  rcases List.eq_nil_or_concat l with rfl | ⟨r,x,rfl⟩
  ·simp at hn
  ·rw [List.concat_eq_append] at hn ⊢
   rw [qjt,List.pairwise_append,Bool.and_eq_true,ih r (by simpa using hn),List.all_eq_true]
   simp only [List.pairwise_cons,List.not_mem_nil,false_implies,implies_true,List.Pairwise.nil,and_self,true_and,List.mem_singleton,forall_eq]
   refine and_congr_right fun _=>forall_congr' fun y=>forall_congr' fun _=>?_
   rw [qme x y]
   cases qjk y x<;>simp
theorem qaav {l m:List Ex} (h:l.Perm m) (hl:apX l=true):apX m=true:=by
 rw [qw4] at hl ⊢;exact (h.pairwise_iff (fun {a b} hab=>by rw [qme];exact hab)).1 hl
theorem qw5 {l m:List Ex} {b:Int} (h:l.Perm m) (hl:extP l b):extP m b:=by
 obtain ⟨h1,h2,h3⟩:=extP_parts.1 hl;refine extP_parts.2 ⟨qaav h h1, ?_,fun x hx=>h3 x (h.mem_iff.2 hx)⟩;obtain ⟨k1,k2⟩:=qeg h2
 exact qko (by rw [←h.length_eq];exact k1) fun x hx=>k2 x (h.mem_iff.2 hx)
theorem qaaw {l m:List Ex} {b:Int} (h:l.Sublist m) (hm:extP m b):extP l b:=by
 obtain ⟨h1,h2,h3⟩:=extP_parts.1 hm;obtain ⟨k1,k2⟩:=qeg h2;refine extP_parts.2 ⟨?_,qko (Nat.le_trans h.length_le k1) fun x hx=>k2 x (h.subset hx),fun x hx=>h3 x (h.subset hx)⟩;rw [qw4] at h1 ⊢;exact h1.sublist h
theorem qaax {fs gs:List Fl} (h:fs.Sublist gs):(qay fs).Sublist (qay gs):=by
 unfold qay
 induction h with
 | slnil=>exact List.Sublist.refl _
 | cons a _ ih=>rw [List.flatMap_cons];exact ih.trans (List.sublist_append_right _ _)
 | cons_cons a _ ih=>rw [List.flatMap_cons,List.flatMap_cons];exact (List.Sublist.refl _).append ih
def qw6 (fs:List Fl) (x y:List UInt8):List Fl:=fs.filter fun f=>!(f.1==x) && !(f.1==y)
theorem qaay {fs:List Fl} {f:Fl} {x y:List UInt8} (h:f.1=x∨f.1=y):qw6 (insF fs f) x y=qw6 fs x y:=by
 unfold qw6 insF;rw [List.filter_append,List.filter_cons_of_neg (by rcases h with h | h<;>simp [h]),←List.filter_append,List.take_append_drop]
theorem qaeg {fs:List Fl} (h:fitE fs=0):(bytF fs).length≤2048:=by
 unfold fitE at h
 split at h
 ·assumption
 ·omega
theorem qgt {fs:List Fl} {s:List UInt8} {l:List Ex} {b:Int} (h:qa5 fs s l b=0):chkF fs b=0∧qdw s=true∧isF fs s=false∧l≠[]∧extP (qay fs++l) b∧fs.length≠40∧l.length≤64∧(bytF (insF fs (s,l))).length≤2048:=by
 unfold qa5 at h
 by_cases h1:chkF fs b=0
 ·rw [if_neg (by simpa using h1)] at h
  cases h2:qdw s with
  | false=>rw [if_pos h2] at h;omega
  | true=>
   rw [if_neg (by simp [h2])] at h
   cases h3:isF fs s with
   | true=>rw [if_pos h3] at h;omega
   | false=>
    rw [if_neg (by simp [h3])] at h
    by_cases h4:l=[]∨¬extP (qay fs++l) b
    ·rw [if_pos h4] at h;omega
    ·rw [if_neg h4] at h
     by_cases h5:fs.length=40∨64<l.length
     ·rw [if_pos h5] at h;omega
     ·rw [if_neg h5] at h
      refine ⟨h1,rfl,rfl,fun e=>h4 (.inl e), ?_,fun e=>h5 (.inl e),by omega,qaeg h⟩
      by_cases h6:extP (qay fs++l) b
      ·exact h6
      ·exact absurd (.inr h6) h4
 ·rw [if_pos h1] at h;exact absurd h h1
theorem qsp (fs:List Fl) (f:Fl):(qay (insF fs f)).Perm (qay fs++f.2):=by
 refine (qw3 (qnv fs f)).trans ?_
 unfold qay;rw [List.flatMap_cons];exact List.perm_append_comm
theorem qkt {fs:List Fl} {s:List UInt8} {l:List Ex} {b:Int} (h:qa5 fs s l b=0):mayF (insF fs (s,l)) b:=by
 obtain ⟨h1,h2,h3,h4,h5,h6,h7,h8⟩:=qgt h;obtain ⟨g1,g2⟩:=qns h1;refine ⟨?_,⟨?_,qaau g2.2.1.2 h3⟩,qw5 (qsp fs (s,l)).symm h5,h8⟩
 ·rw [qw2];have:=g2.1;omega
 ·intro f hf
  rcases ins_mem.1 hf with rfl | hf
  ·simp only [oneF,Bool.and_eq_true,decide_eq_true_eq]
   refine ⟨⟨h2, ?_⟩,h7⟩
   cases l with
   | nil=>exact absurd rfl h4
   | cons _ _=>simp
  ·exact g2.2.1.1 f hf
theorem qo7 {fs:List Fl} {s:List UInt8} {b:Int} (h:chkF fs b=0) (h1:qdw s=true) (h2:isF fs s=true):qba fs s=0∧qhd fs s=(s,getF fs s):=by
 have e:qba fs s=0:=by
  unfold qba;rw [if_neg (by simpa using qjv h),if_neg (by simp [h1]),if_pos h2]
 exact ⟨e,by unfold qhd;rw [if_pos e]⟩
theorem qur {fs:List Fl} {s:List UInt8} {b:Int} (h:chkF fs b=0) (h1:qdw s=true) (h2:isF fs s=false):qba fs s=6:=by
 unfold qba;rw [if_neg (by simpa using qjv h),if_neg (by simp [h1]),if_neg (by simp [h2])]
theorem qus {fs:List Fl} {s:List UInt8} (h:qba fs s=0):chkF fs 4096=0∧qdw s=true∧isF fs s=true:=by
 unfold qba at h
 by_cases h1:chkF fs 4096=0
 ·rw [if_neg (by simpa using h1)] at h
  cases h2:qdw s with
  | false=>rw [if_pos h2] at h;omega
  | true=>
   rw [if_neg (by simp [h2])] at h
   cases h3:isF fs s with
   | true=>exact ⟨h1,rfl,rfl⟩
   | false=>rw [if_neg (by simp [h3])] at h;omega
 ·rw [if_pos h1] at h;exact absurd h h1
theorem qra {fs:List Fl} {s:List UInt8} {l:List Ex} {b:Int} (h:qa5 fs s l b=0):
  qba fs s=6∧chkF (insF fs (s,l)) b=0∧qba (insF fs (s,l)) s=0∧qhd (insF fs (s,l)) s=(s,l)∧qw6 (insF fs (s,l)) s s=qw6 fs s s∧(insF fs (s,l)).length=fs.length+1:=by
 obtain ⟨h1,h2,h3,h4,h5,h6,h7,h8⟩:=qgt h;obtain ⟨g1,g2⟩:=qns h1;have hm:=qkt h;have hc:=qnt g1 hm;have hin:(s,l)∈insF fs (s,l):=ins_mem.2 (.inl rfl);obtain ⟨t1,t2⟩:=qo7 hc h2 ((qnu _ _).2 ⟨l,hin⟩);rw [qso hm.2.1.2 hin] at t2;exact ⟨qur h1 h2 h3,hc,t1,t2,qaay (.inl rfl),qw2 _ _⟩
theorem wf_ins {fs:List Fl} (h:∀f∈fs,∀x∈f.2,wfX x) {f:Fl} (hf:∀x∈f.2,wfX x):∀g∈insF fs f,∀x∈g.2,wfX x:=by
 intro g hg
 rcases ins_mem.1 hg with rfl | hg
 ·exact hf
 ·exact h g hg
end Go.Proofs.YtnmbbpdhjkaidaaGreat
