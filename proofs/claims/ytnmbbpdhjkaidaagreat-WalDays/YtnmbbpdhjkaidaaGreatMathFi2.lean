/-
  Layer 5 in plain words: blocks apart, counted; directories made, deleted, renamed may be.
-/
import Derived.Test.YtnmbbpdhjkaidaaGreatMathRm
import Derived.Test.YtnmbbpdhjkaidaaGreatMathRd
import Derived.Lib.Bytealg
namespace Go.Proofs.YtnmbbpdhjkaidaaGreat
open Go.RowKit
set_option linter.all false
abbrev Fl:=List UInt8 × List Ex
/-! ### names -/
def ltN:List UInt8→List UInt8→Bool
 | [],[]=>false
 | [],_::_=>true
 | _::_,[]=>false
 | a::s,b::t=>decide (a<b) || ((a==b) && ltN s t)
theorem qafj:∀a b:List UInt8,Op.bytesLess a b=ltN a b
 | [],[]=>by simp [Op.bytesLess,ltN]
 | [],_::_=>by simp [Op.bytesLess,ltN]
 | _::_,[]=>by simp [Op.bytesLess,ltN]
 | a::s,b::t=>by simp [Op.bytesLess,ltN,qafj s t]
theorem qew:∀a:List UInt8,ltN a a=false
 | []=>rfl
 | a::s=>by simp [ltN,qew s,UInt8.lt_irrefl]
theorem qgd:∀a b c:List UInt8,ltN a b=true→ltN b c=true→ltN a c=true
 | [],[],_,h,_=>by simp [ltN] at h
 | [],_::_,[],_,h=>by simp [ltN] at h
 | [],_::_,_::_,_,_=>rfl
 | _::_,[],_,h,_=>by simp [ltN] at h
 | _::_,_::_,[],_,h=>by simp [ltN] at h
 | a::s,b::t,c::u,h,k=>by
  simp only [ltN,Bool.or_eq_true,Bool.and_eq_true,decide_eq_true_eq,beq_iff_eq] at h k ⊢
  rcases h with h | ⟨rfl,h⟩
  ·rcases k with k | ⟨rfl,k⟩
   ·exact .inl (UInt8.lt_trans h k)
   ·exact .inl h
  ·rcases k with k | ⟨rfl,k⟩
   ·exact .inl k
   ·exact .inr ⟨rfl,qgd s t u h k⟩
theorem ql6:∀a b:List UInt8,ltN a b=false→a≠b→ltN b a=true
 | [],[],_,h=>absurd rfl h
 | [],_::_,h,_=>by simp [ltN] at h
 | _::_,[],_,_=>rfl
 | a::s,b::t,h,hne=>by
  simp only [ltN,Bool.or_eq_false_iff,Bool.and_eq_false_iff,decide_eq_false_iff_not,Bool.or_eq_true,Bool.and_eq_true,decide_eq_true_eq,beq_iff_eq] at h ⊢
  obtain ⟨h1,h2⟩:=h
  by_cases e:a=b
  ·subst e
   refine .inr ⟨rfl,ql6 s t ?_ (fun e=>hne (by rw [e]))⟩
   rcases h2 with h2 | h2
   ·simp at h2
   ·exact h2
  ·left
   have h3:¬a.toNat<b.toNat:=fun h=>h1 (UInt8.lt_iff_toNat_lt.2 h)
   have h4:a.toNat≠b.toNat:=fun h=>e (UInt8.toNat_inj.1 h)
   exact UInt8.lt_iff_toNat_lt.2 (by omega)
theorem qyl {a b:List UInt8} (h:ltN a b=true):ltN b a=false:=by
 cases k:ltN b a with
 | false=>rfl
 | true=>have:=qgd a b a h k;rw [qew] at this;cases this
theorem qafk {a b:List UInt8} (h:ltN a b=true):a≠b:=by rintro rfl;rw [qew] at h;cases h
theorem qss:∀a b:List UInt8,(Lib.compareBytes a b<0↔ltN a b=true)∧(Lib.compareBytes a b=0↔a=b)
 | [],[]=>by simp [Lib.compareBytes,ltN]
 | [],_::_=>by simp [Lib.compareBytes,ltN]
 | _::_,[]=>by simp [Lib.compareBytes,ltN]
 | a::s,b::t=>by
  have ih:=qss s t
  by_cases h1:a<b
  ·have hne:a≠b:=by rintro rfl;exact UInt8.lt_irrefl _ h1
   simp [Lib.compareBytes,ltN,h1,hne]
  ·by_cases h2:b<a
   ·have hne:a≠b:=by rintro rfl;exact UInt8.lt_irrefl _ h2
    simp [Lib.compareBytes,ltN,h1,h2,hne]
   ·have e:a=b:=by
     have h3:¬a.toNat<b.toNat:=fun h=>h1 (UInt8.lt_iff_toNat_lt.2 h)
     have h4:¬b.toNat<a.toNat:=fun h=>h2 (UInt8.lt_iff_toNat_lt.2 h)
     exact UInt8.toNat_inj.1 (by omega)
    subst e
    simp [Lib.compareBytes,ltN,UInt8.lt_irrefl,ih.1,ih.2]
def qed (s:List UInt8):Bool:=decide (1≤s.length) && decide (s.length≤16)
/-! ### files -/
def qa0 (fs:List Fl):List Ex:=fs.flatMap (·.2)
def bytX (x:Ex):List UInt8:=sm x.1.toNat++sm x.2.toNat
def bytE (l:List Ex):List UInt8:=l.flatMap bytX
def qee (f:Fl):List UInt8:=tx f.1++(sm f.2.length++bytE f.2)
def bytF (fs:List Fl):List UInt8:=sm fs.length++fs.flatMap qee
def oneF (f:Fl):Bool:=qed f.1 && decide (1≤f.2.length) && decide (f.2.length≤64)
def qef (fs:List Fl):Prop:=fs.Pairwise fun f g=>ltN f.1 g.1=true
instance (fs:List Fl):Decidable (qef fs):=inferInstanceAs (Decidable (fs.Pairwise _))
def qf1 (fs:List Fl):Prop:=(∀f∈fs,oneF f=true)∧qef fs
instance (fs:List Fl):Decidable (qf1 fs):=inferInstanceAs (Decidable (_∧_))
def extP (l:List Ex) (b:Int):Prop:=chkX l=0∧∀x∈l,34≤x.1∧x.1+x.2≤b
instance (l:List Ex) (b:Int):Decidable (extP l b):=inferInstanceAs (Decidable (_∧_))
def mayF (fs:List Fl) (b:Int):Prop:=fs.length≤40∧qf1 fs∧extP (qa0 fs) b∧(bytF fs).length≤2048
instance (fs:List Fl) (b:Int):Decidable (mayF fs b):=inferInstanceAs (Decidable (_∧_))
def blkP (b:Int):Prop:=34<b∧b≤4096
instance (b:Int):Decidable (blkP b):=inferInstanceAs (Decidable (_∧_))
def chkF (fs:List Fl) (b:Int):Int:=if ¬blkP b then 2 else if mayF fs b then 0 else 8
def posF (fs:List Fl) (s:List UInt8):Nat:=fs.countP fun f=>ltN f.1 s
def isF (fs:List Fl) (s:List UInt8):Bool:=fs.any fun f=>f.1==s
def getF (fs:List Fl) (s:List UInt8):List Ex:=((fs.find? fun f=>f.1==s).map (·.2)).getD []
def insF (fs:List Fl) (f:Fl):List Fl:=fs.take (posF fs f.1)++f::fs.drop (posF fs f.1)
def qbg (fs:List Fl) (s:List UInt8):Int:=if chkF fs 4096≠0 then chkF fs 4096 else if qed s=false then 50 else if isF fs s then 0 else 6
def qi6 (fs:List Fl) (s:List UInt8):Fl:=if qbg fs s=0 then (s,getF fs s) else ([],[])
def fitE (fs:List Fl):Int:=if (bytF fs).length≤2048 then 0 else 40
def qa8 (fs:List Fl) (s:List UInt8) (l:List Ex) (b:Int):Int:=
 if chkF fs b≠0 then chkF fs b else if qed s=false then 50 else if isF fs s then 51 else if l=[]∨¬extP (qa0 fs++l) b then 8
 else if fs.length=40∨64<l.length then 40 else fitE (insF fs (s,l))
def qdq (fs:List Fl) (s:List UInt8) (l:List Ex) (b:Int):List Fl:=if qa8 fs s l b=0 then insF fs (s,l) else []
def qgr (fs:List Fl):List Ex:=if chkF fs 4096=0 then qa0 fs else []
def qe4 (fs:List Fl) (b:Int):List UInt8:=if chkF fs b=0 then bytF fs else []
theorem qv5 (fs:List Fl) (k:Nat) (h:k<fs.length):qa0 (fs.take (k+1))=qa0 (fs.take k)++(fs[k]).2:=by
 unfold qa0;rw [List.take_succ_eq_append_getElem h,List.flatMap_append]
 simp
theorem qym (fs:List Fl) (k:Nat) (h:k<fs.length):(fs.take (k+1)).flatMap qee=(fs.take k).flatMap qee++qee fs[k]:=by
 rw [List.take_succ_eq_append_getElem h,List.flatMap_append]
 simp
theorem qyn (l:List Ex) (k:Nat) (h:k<l.length):bytE (l.take (k+1))=bytE (l.take k)++bytX l[k]:=by
 unfold bytE;rw [List.take_succ_eq_append_getElem h,List.flatMap_append]
 simp
theorem qv6 {fs:List Fl} {f:Fl} (h:qef (fs++[f])):qef fs∧∀g∈fs,ltN g.1 f.1=true:=by
 unfold qef at h;rw [List.pairwise_append] at h;exact ⟨h.1,fun g hg=>h.2.2 g hg f (by simp)⟩
theorem qyo {fs:List Fl} {f:Fl} (h:qef fs) (hk:fs=[]∨∃p g,fs=p++[g]∧ltN g.1 f.1=true):qef (fs++[f]):=by
 unfold qef;rw [List.pairwise_append];refine ⟨h,by simp, ?_⟩;intro g hg x hx
 obtain rfl:x=f:=by simpa using hx
 rcases hk with rfl | ⟨p,y,rfl,hy⟩
 ·simp at hg
 ·rcases List.mem_append.1 hg with hg | hg
  ·exact qgd _ _ _ ((qv6 h).2 g hg) hy
  ·obtain rfl:g=y:=by simpa using hg
   exact hy
theorem qyp:qf1 []:=⟨by simp,List.Pairwise.nil⟩
theorem qd6 {α:Type} (l:List α) (k:Nat) (h:k<l.length):l.take (k+1)=l.take k++[l[k]]:=List.take_succ_eq_append_getElem h
theorem qkg {fs:List Fl} {k:Nat} (h:k<fs.length) (hb:oneF fs[k]=false):¬qf1 fs:=fun e=>by
 have:=e.1 fs[k] (List.getElem_mem h);rw [hb] at this;cases this
theorem qv7 {fs:List Fl} {k:Nat} (h:k+1<fs.length) (hb:ltN (fs[k]).1 (fs[k+1]).1=false):¬qf1 fs:=fun e=>by
 have:=List.pairwise_iff_getElem.1 e.2 k (k+1) (by omega) h (by omega);rw [hb] at this;cases this
theorem qny {fs:List Fl} {k:Nat} (h:k<fs.length) (he:qf1 (fs.take k)) (ho:oneF fs[k]=true) (hl:∀j,(hj:j+1=k)→ltN (fs[j]).1 (fs[k]).1=true):qf1 (fs.take (k+1)):=by
 rw [qd6 fs k h];refine ⟨?_,qyo he.2 ?_⟩
 ·intro f hf
  rcases List.mem_append.1 hf with hf | hf
  ·exact he.1 f hf
  ·obtain rfl:f=fs[k]:=by simpa using hf
   exact ho
 ·cases k with
  | zero=>left;simp
  | succ j=>
   right
   exact ⟨fs.take j,fs[j],qd6 fs j (by omega),hl j rfl⟩
theorem qih {f:Fl} (h:oneF f=true):1≤f.1.length∧f.1.length≤16∧1≤f.2.length∧f.2.length≤64:=by
 simp only [oneF,qed,Bool.and_eq_true,decide_eq_true_eq] at h
 omega
theorem qag5 {fs:List Fl} {s:List UInt8} {i:Nat} (hi:i≤fs.length) (h1:∀t,(h:t<fs.length)→t<i→ltN (fs[t]).1 s=true) (h2:∀t,(h:t<fs.length)→i≤t→ltN (fs[t]).1 s=false):posF fs s=i:=by
 have e:fs=fs.take i++fs.drop i:=(List.take_append_drop i fs).symm;unfold posF;rw [e,List.countP_append]
 have a1:(fs.take i).countP (fun f=>ltN f.1 s)=i:=by
  have:(fs.take i).countP (fun f=>ltN f.1 s)=(fs.take i).length:=by
   rw [List.countP_eq_length];intro f hf;obtain ⟨t,ht,rfl⟩:=List.mem_iff_getElem.1 hf;rw [List.length_take] at ht;rw [List.getElem_take];exact h1 t (by omega) (by omega)
  rw [this,List.length_take];omega
 have a2:(fs.drop i).countP (fun f=>ltN f.1 s)=0:=by
  rw [List.countP_eq_zero];intro f hf;obtain ⟨t,ht,rfl⟩:=List.mem_iff_getElem.1 hf;rw [List.length_drop] at ht;rw [List.getElem_drop]
  simp [h2 (i+t) (by omega) (by omega)]
 omega
theorem qyq (fs:List Fl) (s:List UInt8):posF fs s≤fs.length:=List.countP_le_length
theorem qlc {fs:List Fl} (h:qef fs) {i j:Nat} (hij:i<j) (hj:j<fs.length):ltN (fs[i]).1 (fs[j]).1=true:=List.pairwise_iff_getElem.1 h i j (by omega) hj hij
theorem qo5 {fs:List Fl} (hr:qef fs) (s:List UInt8):∀t,(h:t<fs.length)→(t<posF fs s→ltN (fs[t]).1 s=true)∧(posF fs s≤t→ltN (fs[t]).1 s=false):=by
 induction fs with
 | nil=>intro t h;simp at h
 | cons f r ih=>
  have hr':qef r:=(List.pairwise_cons.1 hr).2;have hf:=(List.pairwise_cons.1 hr).1;intro t h
  cases hl:ltN f.1 s with
  | true=>
   have e:posF (f::r) s=posF r s+1:=by unfold posF;rw [List.countP_cons];simp [hl]
   rw [e]
   cases t with
   | zero=>exact ⟨fun _=>hl,fun h=>by omega⟩
   | succ t=>
    have:=ih hr' t (by simpa using h)
    simp only [List.getElem_cons_succ]
    exact ⟨fun h=>this.1 (by omega),fun h=>this.2 (by omega)⟩
  | false=>
   have z:∀g∈f::r,ltN g.1 s=false:=by
    intro g hg
    rcases List.mem_cons.1 hg with rfl | hg
    ·exact hl
    ·cases k:ltN g.1 s with
     | false=>rfl
     | true=>have:=qgd _ _ _ (hf g hg) k;rw [hl] at this;cases this
   have e:posF (f::r) s=0:=by
    unfold posF;rw [List.countP_eq_zero];intro g hg
    simp [z g hg]
   rw [e];exact ⟨fun h=>by omega,fun _=>z _ (List.getElem_mem h)⟩
theorem qafl {fs:List Fl} (hr:qef fs) (s:List UInt8):isF fs s=(if h:posF fs s<fs.length then (fs[posF fs s]).1==s else false):=by
 by_cases h:posF fs s<fs.length
 ·rw [dif_pos h]
  cases hq:(fs[posF fs s]).1==s with
  | true=>unfold isF;rw [List.any_eq_true];exact ⟨_,List.getElem_mem h,hq⟩
  | false=>
   unfold isF;rw [List.any_eq_false];intro g hg;obtain ⟨t,ht,rfl⟩:=List.mem_iff_getElem.1 hg;intro e
   have e:(fs[t]).1=s:=by simpa using e
   have p:=qo5 hr s t ht
   have h1:ltN (fs[t]).1 s=false:=by rw [e];exact qew s
   have h2:posF fs s≤t:=by
    rcases Nat.lt_or_ge t (posF fs s) with h | h
    ·rw [p.1 h] at h1;cases h1
    ·exact h
   rcases Nat.lt_or_eq_of_le h2 with h3 | h3
   ·have:=qlc hr h3 ht
    rw [e] at this
    have:=(qo5 hr s _ h).2 (Nat.le_refl _)
    simp_all
   ·subst h3;rw [e] at hq;simp at hq
 ·rw [dif_neg h]
  unfold isF;rw [List.any_eq_false];intro g hg;obtain ⟨t,ht,rfl⟩:=List.mem_iff_getElem.1 hg;intro e
  have e:(fs[t]).1=s:=by simpa using e
  have:=(qo5 hr s t ht).1 (by omega)
  rw [e,qew] at this;cases this
theorem qyr {fs:List Fl} (hr:qef fs) {s:List UInt8} {t:Nat} (ht:t<fs.length) (e:(fs[t]).1=s):getF fs s=(fs[t]).2:=by
 have:fs.find? (fun f=>f.1==s)=some fs[t]:=by
  rw [List.find?_eq_some_iff_getElem];refine ⟨by simp [e],t,ht,rfl, ?_⟩;intro j hj
  have:=qlc hr hj ht
  rw [e] at this
  have:=qafk this
  simp [this]
 simp [getF,this]
theorem qac1 {fs:List Fl} (hr:qef fs) {s:List UInt8} (h:isF fs s=true):∃hp:posF fs s<fs.length,(fs[posF fs s]).1=s∧getF fs s=(fs[posF fs s]).2:=by
 rw [qafl hr] at h
 by_cases hp:posF fs s<fs.length
 ·rw [dif_pos hp] at h
  have e:(fs[posF fs s]).1=s:=by simpa using h
  exact ⟨hp,e,qyr hr hp e⟩
 ·rw [dif_neg hp] at h;cases h
/-! ### counting blocks -/
def cntB (p:Int→Bool) (a:Int):Nat→Int
 | 0=>0
 | k+1=>cntB p a k+if p (a+k) then 1 else 0
theorem qo6 (p:Int→Bool) (a:Int):∀k:Nat,cntB p a k≤k
 | 0=>by simp [cntB]
 | k+1=>by
  have:=qo6 p a k
  simp only [cntB]
  split<;>omega
theorem qo7 {p q:Int→Bool} (a:Int):∀k:Nat,(∀i:Nat,i<k→p (a+i)=true→q (a+i)=false)→cntB (fun n=>p n || q n) a k=cntB p a k+cntB q a k
 | 0,_=>by simp [cntB]
 | k+1,h=>by
  have ih:=qo7 (p:=p) (q:=q) a k fun i hi=>h i (by omega)
  have hk:=h k (by omega)
  simp only [cntB,ih]
  show (cntB p a k+cntB q a k+if (p (a+k) || q (a+k))=true then (1:Int) else 0)=_
  obtain ⟨x,hx⟩:∃x,x=p (a+k):=⟨_,rfl⟩;obtain ⟨y,hy⟩:∃y,y=q (a+k):=⟨_,rfl⟩
  simp only [←hx,←hy] at hk ⊢
  clear h ih hx hy
  cases x<;>cases y<;>simp at hk ⊢<;>omega
theorem qt3 (x:Ex) (a:Int) (ha:a≤x.1) (hx:0≤x.2):∀k:Nat,cntB (inX x) a k=max 0 (min (k:Int) (x.1+x.2 - a) - (x.1 - a))
 | 0=>by simp [cntB];omega
 | k+1=>by
  have ih:=qt3 x a ha hx k
  simp only [cntB,ih,inX]
  by_cases h1:x.1≤a+k
  ·by_cases h2:a+(k:Int)<x.1+x.2
   ·simp only [h1,h2,decide_true,Bool.and_self,if_true];omega
   ·simp only [h1,h2,decide_true,decide_false,Bool.and_false];simp;omega
  ·simp only [h1,decide_false,Bool.false_and];simp;omega
theorem qjj {a:Int} {k:Nat}:∀l:List Ex,(∀x∈l,a≤x.1∧1≤x.2∧x.1+x.2≤a+k)→apX l=true→qbm l=cntB (inL l) a k
 | l,h,hp=>by
  rcases List.eq_nil_or_concat l with rfl | ⟨r,x,rfl⟩
  ·have:∀k,cntB (inL []) a k=0:=by
    intro k
    induction k with
    | zero=>rfl
    | succ k ih=>simp only [cntB,ih];simp [inL]
   rw [this];rfl
  ·rw [List.concat_eq_append] at h hp ⊢
   rw [qlb,Bool.and_eq_true] at hp;have ih:=qjj r (fun y hy=>h y (by simp [hy])) hp.1
   have e:inL (r++[x])=fun n=>inL r n || inX x n:=by funext n;exact qif r x n
   have hx:=h x (by simp);rw [qkd,e,qo7,←ih,qt3 x a hx.1 (by omega)]
   ·omega
   ·intro i hi hl
    obtain ⟨y,hy,hyn⟩:=List.any_eq_true.1 hl
    have:=List.all_eq_true.1 hp.2 y hy
    cases hq:inX x (a+i) with
    | false=>rfl
    | true=>
     have hy1:=h y (by simp [hy]);have hm:=(qo0 (a:=x) (b:=y) (by omega) (by omega)).2 ⟨_,hq,hyn⟩
     simp [hm] at this
termination_by l=>l.length
decreasing_by subst_vars;simp [List.concat_eq_append]
/-! ### extents that may be -/
theorem extP_parts {l:List Ex} {b:Int}:extP l b↔(apX l=true∧allX l=0∧∀x∈l,34≤x.1∧x.1+x.2≤b):=by
 unfold extP
 constructor
 ·rintro ⟨h,k⟩
  obtain ⟨h1,h2⟩:=qo1 h;exact ⟨h2,h1,k⟩
 ·rintro ⟨h1,h2,h3⟩
  exact ⟨ql3 h2 h1,h3⟩
theorem qes {l:List Ex} {b:Int} (h:extP l b):∀x∈l,34≤x.1∧1≤x.2∧x.1+x.2≤b:=by
 intro x hx;obtain ⟨_,h2,h3⟩:=extP_parts.1 h
 have:=(qe2 h2).2 x hx
 have:=h3 x hx
 omega
theorem qag6 {l:List Ex} {b c:Int} (h:extP l b) (hbc:b≤c):extP l c:=⟨h.1,fun x hx=>by have:=h.2 x hx;omega⟩
theorem qag7 {fs:List Fl} {b c:Int} (h:mayF fs b) (hbc:b≤c):mayF fs c:=⟨h.1,h.2.1,qag6 h.2.2.1 hbc,h.2.2.2⟩
theorem qo8 {fs:List Fl} {b:Int} (h:chkF fs b=0):blkP b∧mayF fs b:=by
 unfold chkF at h
 by_cases h1:blkP b
 ·rw [if_neg (by simpa using h1)] at h
  by_cases h2:mayF fs b
  ·exact ⟨h1,h2⟩
  ·rw [if_neg h2] at h;omega
 ·rw [if_pos h1] at h;omega
theorem qo9 {fs:List Fl} {b:Int} (h1:blkP b) (h2:mayF fs b):chkF fs b=0:=by
 unfold chkF;rw [if_neg (by simpa using h1),if_pos h2]
theorem qac2:blkP 4096:=⟨by omega,by omega⟩
theorem qld {fs:List Fl} {b:Int} (h:chkF fs b=0):chkF fs 4096=0:=by
 obtain ⟨h1,h2⟩:=qo8 h;exact qo9 qac2 (qag7 h2 h1.2)
/-! ### FilesApart -/
theorem qle {a b:Int} {l:List Ex} {w:Int} (h:qem a b l w=0):qc9 a b l=0∧1≤w∧∃r,cutX (qdn a b l) w=some r∧qcr a b l w=r:=by
 by_cases h1:qc9 a b l=0
 ·by_cases h2:w<1∨4096<w
  ·rw [(qjg h1 h2).1] at h;omega
  ·have h3:1≤w:=by omega
   have h4:w≤4096:=by omega
   cases hc:cutX (qdn a b l) w with
   | none=>rw [(qvz h1 h3 h4 hc).1] at h;omega
   | some r=>exact ⟨h1,h3,r,rfl,(qvy h1 h3 h4 hc).2⟩
 ·rw [(qnu h1).1] at h;exact absurd h h1
/-! ### FilesFind -/
theorem qpa (fs:List Fl) (s:List UInt8):isF fs s=true↔∃l,(s,l)∈fs:=by
 unfold isF;rw [List.any_eq_true]
 constructor
 ·rintro ⟨f,hf,e⟩
  obtain ⟨f1,f2⟩:=f
  have e:f1=s:=by simpa using e
  subst e;exact ⟨f2,hf⟩
 ·rintro ⟨l,hl⟩
  exact ⟨_,hl,by simp⟩
theorem qag8 {fs:List Fl} {s:List UInt8} (h:isF fs s=false):∀f∈fs,f.1≠s:=by
 intro f hf e
 have:isF fs s=true:=(qpa fs s).2 ⟨f.2,by rw [←e];exact hf⟩
 rw [h] at this;cases this
theorem qt4 {fs:List Fl} (hr:qef fs) {s:List UInt8} {l:List Ex} (h:(s,l)∈fs):getF fs s=l:=by
 obtain ⟨t,ht,e⟩:=List.mem_iff_getElem.1 h;rw [qyr hr ht (by rw [e]),e]
theorem qpb (fs:List Fl) (f:Fl):(insF fs f).Perm (f::fs):=by
 unfold insF
 refine List.perm_middle.trans ?_
 rw [List.take_append_drop]
theorem ins_mem {fs:List Fl} {f g:Fl}:g∈insF fs f↔g=f∨g∈fs:=by
 rw [(qpb fs f).mem_iff,List.mem_cons]
theorem qys (fs:List Fl) (f:Fl):(insF fs f).length=fs.length+1:=by rw [(qpb fs f).length_eq,List.length_cons]
theorem qac3 {fs:List Fl} (hr:qef fs) {f:Fl} (h:isF fs f.1=false):qef (insF fs f):=by
 have hlt:=qo5 hr f.1;have hne:=qag8 h;have e:fs=fs.take (posF fs f.1)++fs.drop (posF fs f.1):=(List.take_append_drop _ fs).symm;have hr':=hr;rw [e] at hr';unfold qef at hr';rw [List.pairwise_append] at hr';unfold qef insF;rw [List.pairwise_append,List.pairwise_cons]
 have hb:∀a∈fs.take (posF fs f.1),ltN a.1 f.1=true:=by
  intro a ha;obtain ⟨t,ht,rfl⟩:=List.mem_iff_getElem.1 ha;rw [List.length_take] at ht;rw [List.getElem_take];exact (hlt t (by omega)).1 (by omega)
 refine ⟨hr'.1,⟨?_,hr'.2.1⟩, ?_⟩
 ·intro g hg
  obtain ⟨t,ht,rfl⟩:=List.mem_iff_getElem.1 hg;rw [List.length_drop] at ht;rw [List.getElem_drop];refine ql6 _ _ ((hlt _ (by omega)).2 (by omega)) (hne _ (List.getElem_mem _))
 ·intro a ha g hg
  rcases List.mem_cons.1 hg with rfl | hg
  ·exact hb a ha
  ·exact hr'.2.2 a ha g hg
theorem qyt {fs gs:List Fl} (h:fs.Perm gs):(qa0 fs).Perm (qa0 gs):=List.Perm.flatMap_right _ h
theorem qyu (l:List Ex):apX l=true↔l.Pairwise fun x y=>qk3 x y=false:=by
 induction hn:l.length generalizing l with
 | zero=>
  obtain rfl:=List.eq_nil_of_length_eq_zero hn
  simp [apX]
 | succ n ih=>
  rcases List.eq_nil_or_concat l with rfl | ⟨r,x,rfl⟩
  ·simp at hn
  ·rw [List.concat_eq_append] at hn ⊢
   rw [qlb,List.pairwise_append,Bool.and_eq_true,ih r (by simpa using hn),List.all_eq_true]
   simp only [List.pairwise_cons,List.not_mem_nil,false_implies,implies_true,List.Pairwise.nil,and_self,true_and,List.mem_singleton,forall_eq]
   refine and_congr_right fun _=>forall_congr' fun y=>forall_congr' fun _=>?_
   rw [qns x y]
   cases qk3 y x<;>simp
theorem qac4 {l m:List Ex} (h:l.Perm m) (hl:apX l=true):apX m=true:=by
 rw [qyu] at hl ⊢;exact (h.pairwise_iff (fun {a b} hab=>by rw [qns];exact hab)).1 hl
theorem qyv {l m:List Ex} {b:Int} (h:l.Perm m) (hl:extP l b):extP m b:=by
 obtain ⟨h1,h2,h3⟩:=extP_parts.1 hl;refine extP_parts.2 ⟨qac4 h h1, ?_,fun x hx=>h3 x (h.mem_iff.2 hx)⟩;obtain ⟨k1,k2⟩:=qe2 h2
 exact ql2 (by rw [←h.length_eq];exact k1) fun x hx=>k2 x (h.mem_iff.2 hx)
theorem qac5 {l m:List Ex} {b:Int} (h:l.Sublist m) (hm:extP m b):extP l b:=by
 obtain ⟨h1,h2,h3⟩:=extP_parts.1 hm;obtain ⟨k1,k2⟩:=qe2 h2;refine extP_parts.2 ⟨?_,ql2 (Nat.le_trans h.length_le k1) fun x hx=>k2 x (h.subset hx),fun x hx=>h3 x (h.subset hx)⟩;rw [qyu] at h1 ⊢;exact h1.sublist h
theorem qac6 {fs gs:List Fl} (h:fs.Sublist gs):(qa0 fs).Sublist (qa0 gs):=by
 unfold qa0
 induction h with
 | slnil=>exact List.Sublist.refl _
 | cons a _ ih=>rw [List.flatMap_cons];exact ih.trans (List.sublist_append_right _ _)
 | cons_cons a _ ih=>rw [List.flatMap_cons,List.flatMap_cons];exact (List.Sublist.refl _).append ih
def qyw (fs:List Fl) (x y:List UInt8):List Fl:=fs.filter fun f=>!(f.1==x) && !(f.1==y)
theorem qac7 {fs:List Fl} {f:Fl} {x y:List UInt8} (h:f.1=x∨f.1=y):qyw (insF fs f) x y=qyw fs x y:=by
 unfold qyw insF;rw [List.filter_append,List.filter_cons_of_neg (by rcases h with h | h<;>simp [h]),←List.filter_append,List.take_append_drop]
theorem qag9 {fs:List Fl} (h:fitE fs=0):(bytF fs).length≤2048:=by
 unfold fitE at h
 split at h
 ·assumption
 ·omega
theorem qii {fs:List Fl} {s:List UInt8} {l:List Ex} {b:Int} (h:qa8 fs s l b=0):chkF fs b=0∧qed s=true∧isF fs s=false∧l≠[]∧extP (qa0 fs++l) b∧fs.length≠40∧l.length≤64∧(bytF (insF fs (s,l))).length≤2048:=by
 unfold qa8 at h
 by_cases h1:chkF fs b=0
 ·rw [if_neg (by simpa using h1)] at h
  cases h2:qed s with
  | false=>rw [if_pos h2] at h;omega
  | true=>
   rw [if_neg (by simp [h2])] at h
   cases h3:isF fs s with
   | true=>rw [if_pos h3] at h;omega
   | false=>
    rw [if_neg (by simp [h3])] at h
    by_cases h4:l=[]∨¬extP (qa0 fs++l) b
    ·rw [if_pos h4] at h;omega
    ·rw [if_neg h4] at h
     by_cases h5:fs.length=40∨64<l.length
     ·rw [if_pos h5] at h;omega
     ·rw [if_neg h5] at h
      refine ⟨h1,rfl,rfl,fun e=>h4 (.inl e), ?_,fun e=>h5 (.inl e),by omega,qag9 h⟩
      by_cases h6:extP (qa0 fs++l) b
      ·exact h6
      ·exact absurd (.inr h6) h4
 ·rw [if_pos h1] at h;exact absurd h h1
theorem qt5 (fs:List Fl) (f:Fl):(qa0 (insF fs f)).Perm (qa0 fs++f.2):=by
 refine (qyt (qpb fs f)).trans ?_
 unfold qa0;rw [List.flatMap_cons];exact List.perm_append_comm
theorem ql7 {fs:List Fl} {s:List UInt8} {l:List Ex} {b:Int} (h:qa8 fs s l b=0):mayF (insF fs (s,l)) b:=by
 obtain ⟨h1,h2,h3,h4,h5,h6,h7,h8⟩:=qii h;obtain ⟨g1,g2⟩:=qo8 h1;refine ⟨?_,⟨?_,qac3 g2.2.1.2 h3⟩,qyv (qt5 fs (s,l)).symm h5,h8⟩
 ·rw [qys];have:=g2.1;omega
 ·intro f hf
  rcases ins_mem.1 hf with rfl | hf
  ·simp only [oneF,Bool.and_eq_true,decide_eq_true_eq]
   refine ⟨⟨h2, ?_⟩,h7⟩
   cases l with
   | nil=>exact absurd rfl h4
   | cons _ _=>simp
  ·exact g2.2.1.1 f hf
theorem qqu {fs:List Fl} {s:List UInt8} {b:Int} (h:chkF fs b=0) (h1:qed s=true) (h2:isF fs s=true):qbg fs s=0∧qi6 fs s=(s,getF fs s):=by
 have e:qbg fs s=0:=by
  unfold qbg;rw [if_neg (by simpa using qld h),if_neg (by simp [h1]),if_pos h2]
 exact ⟨e,by unfold qi6;rw [if_pos e]⟩
theorem qv8 {fs:List Fl} {s:List UInt8} {b:Int} (h:chkF fs b=0) (h1:qed s=true) (h2:isF fs s=false):qbg fs s=6:=by
 unfold qbg;rw [if_neg (by simpa using qld h),if_neg (by simp [h1]),if_neg (by simp [h2])]
theorem qv9 {fs:List Fl} {s:List UInt8} (h:qbg fs s=0):chkF fs 4096=0∧qed s=true∧isF fs s=true:=by
 unfold qbg at h
 by_cases h1:chkF fs 4096=0
 ·rw [if_neg (by simpa using h1)] at h
  cases h2:qed s with
  | false=>rw [if_pos h2] at h;omega
  | true=>
   rw [if_neg (by simp [h2])] at h
   cases h3:isF fs s with
   | true=>exact ⟨h1,rfl,rfl⟩
   | false=>rw [if_neg (by simp [h3])] at h;omega
 ·rw [if_pos h1] at h;exact absurd h h1
theorem qst {fs:List Fl} {s:List UInt8} {l:List Ex} {b:Int} (h:qa8 fs s l b=0):
  qbg fs s=6∧chkF (insF fs (s,l)) b=0∧qbg (insF fs (s,l)) s=0∧qi6 (insF fs (s,l)) s=(s,l)∧qyw (insF fs (s,l)) s s=qyw fs s s∧(insF fs (s,l)).length=fs.length+1:=by
 obtain ⟨h1,h2,h3,h4,h5,h6,h7,h8⟩:=qii h;obtain ⟨g1,g2⟩:=qo8 h1;have hm:=ql7 h;have hc:=qo9 g1 hm;have hin:(s,l)∈insF fs (s,l):=ins_mem.2 (.inl rfl);obtain ⟨t1,t2⟩:=qqu hc h2 ((qpa _ _).2 ⟨l,hin⟩);rw [qt4 hm.2.1.2 hin] at t2;exact ⟨qv8 h1 h2 h3,hc,t1,t2,qac7 (.inl rfl),qys _ _⟩
theorem wf_ins {fs:List Fl} (h:∀f∈fs,∀x∈f.2,wfX x) {f:Fl} (hf:∀x∈f.2,wfX x):∀g∈insF fs f,∀x∈g.2,wfX x:=by
 intro g hg
 rcases ins_mem.1 hg with rfl | hg
 ·exact hf
 ·exact h g hg
end Go.Proofs.YtnmbbpdhjkaidaaGreat
