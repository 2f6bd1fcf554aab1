/-
  Rows of files, read and owned.
-/
import Derived.Test.YthilibleedbchaaGreatMathRm
import Derived.Test.YthilibleedbchaaGreatMathRd
import Derived.Lib.Bytealg
import Derived.Test.YthilibleedbchaaGreatCut
namespace Go.Proofs.YthilibleedbchaaGreat
open Go.RowKit
set_option linter.all false
abbrev Fl:=List UInt8 × List Ex
/-! ### names -/
def ltN:List UInt8→List UInt8→Bool
 | [],[]=>false
 | [],_::_=>true
 | _::_,[]=>false
 | a::s,b::t=>decide (a<b) || ((a==b) && ltN s t)
theorem qach:∀a b:List UInt8,Op.bytesLess a b=ltN a b
 | [],[]=>by simp [Op.bytesLess,ltN]
 | [],_::_=>by simp [Op.bytesLess,ltN]
 | _::_,[]=>by simp [Op.bytesLess,ltN]
 | a::s,b::t=>by simp [Op.bytesLess,ltN,qach s t]
theorem qej:∀a:List UInt8,ltN a a=false
 | []=>rfl
 | a::s=>by simp [ltN,qej s,UInt8.lt_irrefl]
theorem qeq:∀a b c:List UInt8,ltN a b=true→ltN b c=true→ltN a c=true
 | [],[],_,h,_=>by simp [ltN] at h
 | [],_::_,[],_,h=>by simp [ltN] at h
 | [],_::_,_::_,_,_=>rfl
 | _::_,[],_,h,_=>by simp [ltN] at h
 | _::_,_::_,[],_,h=>by simp [ltN] at h
 | a::s,b::t,c::u,h,k=>by
  simp only [ltN,Bool.or_eq_true,Bool.and_eq_true,decide_eq_true_eq,beq_iff_eq] at h k ⊢
  rcases h with h | ⟨rfl,h⟩
  ·rcases k with k | ⟨rfl,k⟩
   ·exact .inl (UInt8.lt_trans h k)
   ·exact .inl h
  ·rcases k with k | ⟨rfl,k⟩
   ·exact .inl k
   ·exact .inr ⟨rfl,qeq s t u h k⟩
theorem qf8:∀a b:List UInt8,ltN a b=false→a≠b→ltN b a=true
 | [],[],_,h=>absurd rfl h
 | [],_::_,h,_=>by simp [ltN] at h
 | _::_,[],_,_=>rfl
 | a::s,b::t,h,hne=>by
  simp only [ltN,Bool.or_eq_false_iff,Bool.and_eq_false_iff,decide_eq_false_iff_not,Bool.or_eq_true,Bool.and_eq_true,decide_eq_true_eq,beq_iff_eq] at h ⊢
  obtain ⟨h1,h2⟩:=h
  by_cases e:a=b
  ·subst e
   refine .inr ⟨rfl,qf8 s t ?_ (fun e=>hne (by rw [e]))⟩
   rcases h2 with h2 | h2
   ·simp at h2
   ·exact h2
  ·left
   have h3:¬a.toNat<b.toNat:=fun h=>h1 (UInt8.lt_iff_toNat_lt.2 h)
   have h4:a.toNat≠b.toNat:=fun h=>e (UInt8.toNat_inj.1 h)
   exact UInt8.lt_iff_toNat_lt.2 (by omega)
theorem qhz {a b:List UInt8} (h:ltN a b=true):ltN b a=false:=by
 cases k:ltN b a with
 | false=>rfl
 | true=>have:=qeq a b a h k;rw [qej] at this;cases this
theorem qs9 {a b:List UInt8} (h:ltN a b=true):a≠b:=by rintro rfl;rw [qej] at h;cases h
theorem qrr:∀a b:List UInt8,(Lib.compareBytes a b<0↔ltN a b=true)∧(Lib.compareBytes a b=0↔a=b)
 | [],[]=>by simp [Lib.compareBytes,ltN]
 | [],_::_=>by simp [Lib.compareBytes,ltN]
 | _::_,[]=>by simp [Lib.compareBytes,ltN]
 | a::s,b::t=>by
  have ih:=qrr s t
  by_cases h1:a<b
  ·have hne:a≠b:=by rintro rfl;exact UInt8.lt_irrefl _ h1
   simp [Lib.compareBytes,ltN,h1,hne]
  ·by_cases h2:b<a
   ·have hne:a≠b:=by rintro rfl;exact UInt8.lt_irrefl _ h2
    simp [Lib.compareBytes,ltN,h1,h2,hne]
   ·have e:a=b:=by
     have h3:¬a.toNat<b.toNat:=fun h=>h1 (UInt8.lt_iff_toNat_lt.2 h)
     have h4:¬b.toNat<a.toNat:=fun h=>h2 (UInt8.lt_iff_toNat_lt.2 h)
     exact UInt8.toNat_inj.1 (by omega)
    subst e
    simp [Lib.compareBytes,ltN,UInt8.lt_irrefl,ih.1,ih.2]
def qbv (s:List UInt8):Bool:=decide (1≤s.length) && decide (s.length≤16)
/-! ### files -/
def qas (fs:List Fl):List Ex:=fs.flatMap (·.2)
def bytX (x:Ex):List UInt8:=sm x.1.toNat++sm x.2.toNat
def bytE (l:List Ex):List UInt8:=l.flatMap bytX
def qcm (f:Fl):List UInt8:=tx f.1++(sm f.2.length++bytE f.2)
def bytF (fs:List Fl):List UInt8:=sm fs.length++fs.flatMap qcm
def oneF (f:Fl):Bool:=qbv f.1 && decide (1≤f.2.length) && decide (f.2.length≤64)
def qcs (fs:List Fl):Prop:=fs.Pairwise fun f g=>ltN f.1 g.1=true
instance (fs:List Fl):Decidable (qcs fs):=inferInstanceAs (Decidable (fs.Pairwise _))
def qe1 (fs:List Fl):Prop:=(∀f∈fs,oneF f=true)∧qcs fs
instance (fs:List Fl):Decidable (qe1 fs):=inferInstanceAs (Decidable (_∧_))
def extP (l:List Ex) (b:Int):Prop:=chkX l=0∧∀x∈l,34≤x.1∧x.1+x.2≤b
instance (l:List Ex) (b:Int):Decidable (extP l b):=inferInstanceAs (Decidable (_∧_))
def mayF (fs:List Fl) (b:Int):Prop:=fs.length≤40∧qe1 fs∧extP (qas fs) b∧(bytF fs).length≤2048
instance (fs:List Fl) (b:Int):Decidable (mayF fs b):=inferInstanceAs (Decidable (_∧_))
def blkP (b:Int):Prop:=34<b∧b≤4096
instance (b:Int):Decidable (blkP b):=inferInstanceAs (Decidable (_∧_))
def chkF (fs:List Fl) (b:Int):Int:=if ¬blkP b then 2 else if mayF fs b then 0 else 8
def posF (fs:List Fl) (s:List UInt8):Nat:=fs.countP fun f=>ltN f.1 s
def isF (fs:List Fl) (s:List UInt8):Bool:=fs.any fun f=>f.1==s
def getF (fs:List Fl) (s:List UInt8):List Ex:=((fs.find? fun f=>f.1==s).map (·.2)).getD []
def insF (fs:List Fl) (f:Fl):List Fl:=fs.take (posF fs f.1)++f::fs.drop (posF fs f.1)
def delF (fs:List Fl) (s:List UInt8):List Fl:=fs.filter fun f=>!(f.1==s)
def qav (fs:List Fl) (s:List UInt8):Int:=if chkF fs 4096≠0 then chkF fs 4096 else if qbv s=false then 50 else if isF fs s then 0 else 6
def qfp (fs:List Fl) (s:List UInt8):Fl:=if qav fs s=0 then (s,getF fs s) else ([],[])
def fitE (fs:List Fl):Int:=if (bytF fs).length≤2048 then 0 else 40
def qap (fs:List Fl) (s:List UInt8) (l:List Ex) (b:Int):Int:=
 if chkF fs b≠0 then chkF fs b else if qbv s=false then 50 else if isF fs s then 51 else if l=[]∨¬extP (qas fs++l) b then 8
 else if fs.length=40∨64<l.length then 40 else fitE (insF fs (s,l))
def qbl (fs:List Fl) (s:List UInt8) (l:List Ex) (b:Int):List Fl:=if qap fs s l b=0 then insF fs (s,l) else []
def qb1 (fs:List Fl) (s:List UInt8):List Fl:=if qav fs s=0 then delF fs s else []
def renF (fs:List Fl) (s t:List UInt8):List Fl:=insF (delF (delF fs s) t) (t,getF fs s)
def qay (fs:List Fl) (s t:List UInt8):Int:=
 if chkF fs 4096≠0 then chkF fs 4096 else if qbv s=false∨qbv t=false then 50 else if isF fs s then fitE (renF fs s t) else 6
def qb6 (fs:List Fl) (s t:List UInt8):List Fl:=if qay fs s t=0 then renF fs s t else []
def qdz (fs:List Fl):List Ex:=if chkF fs 4096=0 then qas fs else []
def qer (fs:List Fl) (b:Int):List UInt8:=if chkF fs b=0 then bytF fs else []
theorem qix (fs:List Fl) (k:Nat) (h:k<fs.length):qas (fs.take (k+1))=qas (fs.take k)++(fs[k]).2:=by
 unfold qas;rw [List.take_succ_eq_append_getElem h,List.flatMap_append]
 simp
theorem qpc (fs:List Fl) (k:Nat) (h:k<fs.length):(fs.take (k+1)).flatMap qcm=(fs.take k).flatMap qcm++qcm fs[k]:=by
 rw [List.take_succ_eq_append_getElem h,List.flatMap_append]
 simp
theorem qpd (l:List Ex) (k:Nat) (h:k<l.length):bytE (l.take (k+1))=bytE (l.take k)++bytX l[k]:=by
 unfold bytE;rw [List.take_succ_eq_append_getElem h,List.flatMap_append]
 simp
theorem quv {fs:List Fl} {f:Fl} (h:qcs (fs++[f])):qcs fs∧∀g∈fs,ltN g.1 f.1=true:=by
 unfold qcs at h;rw [List.pairwise_append] at h;exact ⟨h.1,fun g hg=>h.2.2 g hg f (by simp)⟩
theorem qwr {fs:List Fl} {f:Fl} (h:qcs fs) (hk:fs=[]∨∃p g,fs=p++[g]∧ltN g.1 f.1=true):qcs (fs++[f]):=by
 unfold qcs;rw [List.pairwise_append];refine ⟨h,by simp, ?_⟩;intro g hg x hx
 obtain rfl:x=f:=by simpa using hx
 rcases hk with rfl | ⟨p,y,rfl,hy⟩
 ·simp at hg
 ·rcases List.mem_append.1 hg with hg | hg
  ·exact qeq _ _ _ ((quv h).2 g hg) hy
  ·obtain rfl:g=y:=by simpa using hg
   exact hy
theorem qpe:qe1 []:=⟨by simp,List.Pairwise.nil⟩
theorem qa0 {α:Type} (l:List α) (k:Nat) (h:k<l.length):l.take (k+1)=l.take k++[l[k]]:=List.take_succ_eq_append_getElem h
theorem qgx {fs:List Fl} {k:Nat} (h:k<fs.length) (hb:oneF fs[k]=false):¬qe1 fs:=fun e=>by
 have:=e.1 fs[k] (List.getElem_mem h);rw [hb] at this;cases this
theorem qme {fs:List Fl} {k:Nat} (h:k+1<fs.length) (hb:ltN (fs[k]).1 (fs[k+1]).1=false):¬qe1 fs:=fun e=>by
 have:=List.pairwise_iff_getElem.1 e.2 k (k+1) (by omega) h (by omega);rw [hb] at this;cases this
theorem qiy {fs:List Fl} {k:Nat} (h:k<fs.length) (he:qe1 (fs.take k)) (ho:oneF fs[k]=true) (hl:∀j,(hj:j+1=k)→ltN (fs[j]).1 (fs[k]).1=true):qe1 (fs.take (k+1)):=by
 rw [qa0 fs k h];refine ⟨?_,qwr he.2 ?_⟩
 ·intro f hf
  rcases List.mem_append.1 hf with hf | hf
  ·exact he.1 f hf
  ·obtain rfl:f=fs[k]:=by simpa using hf
   exact ho
 ·cases k with
  | zero=>left;simp
  | succ j=>
   right
   exact ⟨fs.take j,fs[j],qa0 fs j (by omega),hl j rfl⟩
theorem qd5 {f:Fl} (h:oneF f=true):1≤f.1.length∧f.1.length≤16∧1≤f.2.length∧f.2.length≤64:=by
 simp only [oneF,qbv,Bool.and_eq_true,decide_eq_true_eq] at h
 omega
theorem qadw {fs:List Fl} {s:List UInt8} {i:Nat} (hi:i≤fs.length) (h1:∀t,(h:t<fs.length)→t<i→ltN (fs[t]).1 s=true) (h2:∀t,(h:t<fs.length)→i≤t→ltN (fs[t]).1 s=false):posF fs s=i:=by
 have e:fs=fs.take i++fs.drop i:=(List.take_append_drop i fs).symm;unfold posF;rw [e,List.countP_append]
 have a1:(fs.take i).countP (fun f=>ltN f.1 s)=i:=by
  have:(fs.take i).countP (fun f=>ltN f.1 s)=(fs.take i).length:=by
   rw [List.countP_eq_length];intro f hf;obtain ⟨t,ht,rfl⟩:=List.mem_iff_getElem.1 hf;rw [List.length_take] at ht;rw [List.getElem_take];exact h1 t (by omega) (by omega)
  rw [this,List.length_take];omega
 have a2:(fs.drop i).countP (fun f=>ltN f.1 s)=0:=by
  rw [List.countP_eq_zero];intro f hf;obtain ⟨t,ht,rfl⟩:=List.mem_iff_getElem.1 hf;rw [List.length_drop] at ht;rw [List.getElem_drop]
  simp [h2 (i+t) (by omega) (by omega)]
 omega
theorem qws (fs:List Fl) (s:List UInt8):posF fs s≤fs.length:=List.countP_le_length
theorem qjs {fs:List Fl} (h:qcs fs) {i j:Nat} (hij:i<j) (hj:j<fs.length):ltN (fs[i]).1 (fs[j]).1=true:=List.pairwise_iff_getElem.1 h i j (by omega) hj hij
theorem qnm {fs:List Fl} (hr:qcs fs) (s:List UInt8):∀t,(h:t<fs.length)→(t<posF fs s→ltN (fs[t]).1 s=true)∧(posF fs s≤t→ltN (fs[t]).1 s=false):=by
 induction fs with
 | nil=>intro t h;simp at h
 | cons f r ih=>
  have hr':qcs r:=(List.pairwise_cons.1 hr).2;have hf:=(List.pairwise_cons.1 hr).1;intro t h
  cases hl:ltN f.1 s with
  | true=>
   have e:posF (f::r) s=posF r s+1:=by unfold posF;rw [List.countP_cons];simp [hl]
   rw [e]
   cases t with
   | zero=>exact ⟨fun _=>hl,fun h=>by omega⟩
   | succ t=>
    have:=ih hr' t (by simpa using h)
    simp only [List.getElem_cons_succ]
    exact ⟨fun h=>this.1 (by omega),fun h=>this.2 (by omega)⟩
  | false=>
   have z:∀g∈f::r,ltN g.1 s=false:=by
    intro g hg
    rcases List.mem_cons.1 hg with rfl | hg
    ·exact hl
    ·cases k:ltN g.1 s with
     | false=>rfl
     | true=>have:=qeq _ _ _ (hf g hg) k;rw [hl] at this;cases this
   have e:posF (f::r) s=0:=by
    unfold posF;rw [List.countP_eq_zero];intro g hg
    simp [z g hg]
   rw [e];exact ⟨fun h=>by omega,fun _=>z _ (List.getElem_mem h)⟩
theorem qaci {fs:List Fl} (hr:qcs fs) (s:List UInt8):isF fs s=(if h:posF fs s<fs.length then (fs[posF fs s]).1==s else false):=by
 by_cases h:posF fs s<fs.length
 ·rw [dif_pos h]
  cases hq:(fs[posF fs s]).1==s with
  | true=>unfold isF;rw [List.any_eq_true];exact ⟨_,List.getElem_mem h,hq⟩
  | false=>
   unfold isF;rw [List.any_eq_false];intro g hg;obtain ⟨t,ht,rfl⟩:=List.mem_iff_getElem.1 hg;intro e
   have e:(fs[t]).1=s:=by simpa using e
   have p:=qnm hr s t ht
   have h1:ltN (fs[t]).1 s=false:=by rw [e];exact qej s
   have h2:posF fs s≤t:=by
    rcases Nat.lt_or_ge t (posF fs s) with h | h
    ·rw [p.1 h] at h1;cases h1
    ·exact h
   rcases Nat.lt_or_eq_of_le h2 with h3 | h3
   ·have:=qjs hr h3 ht
    rw [e] at this
    have:=(qnm hr s _ h).2 (Nat.le_refl _)
    simp_all
   ·subst h3;rw [e] at hq;simp at hq
 ·rw [dif_neg h]
  unfold isF;rw [List.any_eq_false];intro g hg;obtain ⟨t,ht,rfl⟩:=List.mem_iff_getElem.1 hg;intro e
  have e:(fs[t]).1=s:=by simpa using e
  have:=(qnm hr s t ht).1 (by omega)
  rw [e,qej] at this;cases this
theorem qnn {fs:List Fl} (hr:qcs fs) {s:List UInt8} {t:Nat} (ht:t<fs.length) (e:(fs[t]).1=s):getF fs s=(fs[t]).2:=by
 have:fs.find? (fun f=>f.1==s)=some fs[t]:=by
  rw [List.find?_eq_some_iff_getElem];refine ⟨by simp [e],t,ht,rfl, ?_⟩;intro j hj
  have:=qjs hr hj ht
  rw [e] at this
  have:=qs9 this
  simp [this]
 simp [getF,this]
theorem qta {fs:List Fl} (hr:qcs fs) {s:List UInt8} (h:isF fs s=true):∃hp:posF fs s<fs.length,(fs[posF fs s]).1=s∧getF fs s=(fs[posF fs s]).2:=by
 rw [qaci hr] at h
 by_cases hp:posF fs s<fs.length
 ·rw [dif_pos hp] at h
  have e:(fs[posF fs s]).1=s:=by simpa using h
  exact ⟨hp,e,qnn hr hp e⟩
 ·rw [dif_neg hp] at h;cases h
theorem qff {fs:List Fl} (h:qcs fs) (s:List UInt8):qcs (delF fs s):=List.Pairwise.sublist List.filter_sublist h
theorem Tryz.infoFl:(Tryz.prog.info? 75).map (fun i=>(i.zero,i.size,i.bytes))=some (some (.agg #[.string ByteArray.empty,.slice none 0 0]),2,40):=by kernel_rfl
def wfFs (fs:List Fl):Prop:=∀f∈fs,∀x∈f.2,wfX x
theorem qf9 {fs:List Fl} (h:wfFs fs):∀x∈qas fs,wfX x:=by
 intro x hx;obtain ⟨f,hf,hx⟩:=List.mem_flatMap.1 hx;exact h f hf x hx
/-! ### what is read -/
def LieF (w:World) (b off:Nat) (fs:List Fl):Prop:=
 ∀j,(h:j<fs.length)→w.cell? ⟨b,off+j*2,none⟩=some (.string (bs (fs[j]).1))∧
  ∃a c,w.cell? ⟨b,off+j*2+1,none⟩=some (.slice a (fs[j]).2.length c)∧RdE w (.slice a (fs[j]).2.length c) (fs[j]).2
def RdF (w:World) (v:Value) (fs:List Fl):Prop:=
 (fs=[]∧(v=.slice none 0 0∨∃a c,v=.slice (some a) 0 c))∨
 ∃b off c,v=.slice (some ⟨b,off,none⟩) fs.length c∧fs.length≤c∧c≤maxLen∧LieF w b off fs
theorem LieF.carry {w w':World} {b off:Nat} {fs:List Fl} (h:LieF w b off fs) (hb:Below w.heap.size w w'):LieF w' b off fs:=by
 intro j hj;obtain ⟨h0,a,c,h1,h2⟩:=h j hj;refine ⟨?_,a,c, ?_,h2.carry hb⟩
 ·rw [hb.cell (World.block_lt_of_cell? w _ h0)];exact h0
 ·rw [hb.cell (World.block_lt_of_cell? w _ h1)];exact h1
theorem RdF.carry {w w':World} {v:Value} {fs:List Fl} (h:RdF w v fs) (hb:Below w.heap.size w w'):RdF w' v fs:=by
 rcases h with h | ⟨b,off,c,rfl,hc,hm,hl⟩
 ·exact .inl h
 ·exact .inr ⟨b,off,c,rfl,hc,hm,hl.carry hb⟩
theorem RdF.form {w:World} {v:Value} {fs:List Fl} (h:RdF w v fs):∃a c,v=.slice a fs.length c:=by
 rcases h with ⟨rfl,rfl | ⟨a,c,rfl⟩⟩ | ⟨b,off,c,rfl,_⟩<;>exact ⟨_,_,rfl⟩
theorem RdF.len_le {w:World} {v:Value} {fs:List Fl} (h:RdF w v fs):fs.length≤maxLen:=by
 rcases h with ⟨rfl,_⟩ | ⟨b,off,c,rfl,h1,h2,_⟩
 ·simp [maxLen]
 ·omega
theorem RdF.at {w:World} {a:Option Addr} {n c:Nat} {fs:List Fl} (h:RdF w (.slice a n c) fs) (j:Nat) (hj:j<fs.length):
  ∃b off a2 c2,a=some ⟨b,off,none⟩∧w.cell? ⟨b,off+j*2,none⟩=some (.string (bs (fs[j]).1))∧w.cell? ⟨b,off+j*2+1,none⟩=some (.slice a2 (fs[j]).2.length c2)∧RdE w (.slice a2 (fs[j]).2.length c2) (fs[j]).2:=by
 rcases h with ⟨rfl,_⟩ | ⟨b,off,c',e,_,_,hc⟩
 ·exact absurd hj (by simp)
 ·cases e
  obtain ⟨h0,a2,c2,h1,h2⟩:=hc j hj;exact ⟨b,off,a2,c2,rfl,h0,h1,h2⟩
theorem RdF.atB {w w':World} {a:Option Addr} {n c:Nat} {fs:List Fl} (h:RdF w (.slice a n c) fs) (hb:Below w.heap.size w w') (j:Nat) (hj:j<fs.length):
  ∃b off a2 c2,a=some ⟨b,off,none⟩∧w'.cell? ⟨b,off+j*2,none⟩=some (.string (bs (fs[j]).1))∧w'.cell? ⟨b,off+j*2+1,none⟩=some (.slice a2 (fs[j]).2.length c2)∧RdE w (.slice a2 (fs[j]).2.length c2) (fs[j]).2:=by
 obtain ⟨b,off,a2,c2,e,h0,h1,h2⟩:=h.at j hj;refine ⟨b,off,a2,c2,e, ?_, ?_,h2⟩
 ·rw [hb.cell (World.block_lt_of_cell? w _ h0)];exact h0
 ·rw [hb.cell (World.block_lt_of_cell? w _ h1)];exact h1
theorem RdF.nil (w:World):RdF w (.slice none 0 0) []:=.inl ⟨rfl,.inl rfl⟩
/-! ### what is owned -/
def qan (ps:List (Fl × Value)):List Value:=ps.flatMap fun p=>[.string (bs p.1.1),p.2]
theorem qfq (p:Fl × Value) (ps:List (Fl × Value)):qan (p::ps)=.string (bs p.1.1)::p.2::qan ps:=rfl
theorem qdr (ps qs:List (Fl × Value)):qan (ps++qs)=qan ps++qan qs:=by simp [qan]
theorem qb8:∀ps:List (Fl × Value),(qan ps).length=ps.length*2
 | []=>rfl
 | p::ps=>by rw [qfq,List.length_cons,List.length_cons,List.length_cons,qb8 ps];omega
theorem qfg:∀(ps:List (Fl × Value)) (j:Nat) (h:j<ps.length),(qan ps)[j*2]? =some (.string (bs (ps[j]).1.1))∧(qan ps)[j*2+1]? =some (ps[j]).2
 | p::ps,0,h=>by simp [qan]
 | p::ps,j+1,h=>by
  have:=qfg ps j (by simpa using h)
  rw [qfq,show (j+1)*2=j*2+1+1 by omega]
  simpa using this
theorem qhh (ps:List (Fl × Value)) (k:Nat) (h:k≤ps.length):(qan ps).take (k*2)=qan (ps.take k):=by
 have e:qan ps=qan (ps.take k)++qan (ps.drop k):=by rw [←qdr,List.take_append_drop]
 have e2:(qan (ps.take k)).length=k*2:=by rw [qb8,List.length_take,Nat.min_eq_left h]
 rw [e,←e2,List.take_left]
theorem qkl (ps:List (Fl × Value)) (k:Nat) (h:k≤ps.length):(qan ps).drop (k*2)=qan (ps.drop k):=by
 have e:qan ps=qan (ps.take k)++qan (ps.drop k):=by rw [←qdr,List.take_append_drop]
 have e2:(qan (ps.take k)).length=k*2:=by rw [qb8,List.length_take,Nat.min_eq_left h]
 rw [e,←e2,List.drop_left]
theorem OwE.ownForm {w:World} {base:Nat} {v:Value} {l:List Ex} (h:OwE w base v l):v.oneCell'=true:=by
 rcases h.2 with ⟨rfl,_⟩ | ⟨g,cap,cur,rfl,_⟩<;>rfl
theorem qmf {w:World} {base:Nat} {ps:List (Fl × Value)} (h:∀p∈ps,OwE w base p.2 p.1.2):∀u∈qan ps,u.oneCell'=true:=by
 intro u hu;obtain ⟨p,hp,hu⟩:=List.mem_flatMap.1 hu
 simp at hu
 rcases hu with rfl | rfl
 ·rfl
 ·exact (h p hp).ownForm
def OwP (w:World) (base:Nat) (v:Value) (ps:List (Fl × Value)):Prop:=w.ownsRow base 75 2 v ps.length (qan ps)∧∀p∈ps,OwE w base p.2 p.1.2
def OwF (w:World) (base:Nat) (v:Value) (fs:List Fl):Prop:=∃ps,ps.map Prod.fst=fs∧OwP w base v ps
theorem OwP.rd {w:World} {base:Nat} {v:Value} {ps:List (Fl × Value)} (h:OwP w base v ps):RdF w v (ps.map Prod.fst):=by
 obtain ⟨h,hi⟩:=h
 rcases h.2 with ⟨rfl,hn⟩ | ⟨g,cap,cur,rfl,_,hg,hn,hm,hsz,htake⟩
 ·obtain rfl:=List.length_eq_zero_iff.1 hn
  exact .inl ⟨rfl,.inl rfl⟩
 ·refine .inr ⟨g,0,cap,by simp,by simpa using hn,hm,fun j hj=>?_⟩
  have hj':j<ps.length:=by simpa using hj
  obtain ⟨e1,e2⟩:=qfg ps j hj';have c1:=h.cells (g:=g) rfl _ _ e1;have c2:=h.cells (g:=g) rfl _ _ e2;rw [Addr.add_lit] at c1 c2;have hI:=(hi ps[j] (List.getElem_mem hj')).rd;obtain ⟨a,c,hv⟩:=hI.form
  simp only [List.getElem_map]
  refine ⟨by simpa using c1,a,c, ?_, ?_⟩
  ·rw [hv] at c2;simpa [Nat.add_assoc] using c2
  ·rw [←hv];exact hI
theorem OwF.rd {w:World} {base:Nat} {v:Value} {fs:List Fl} (h:OwF w base v fs):RdF w v fs:=by obtain ⟨ps,rfl,h⟩:=h;exact h.rd
theorem OwF.form {w:World} {base:Nat} {v:Value} {fs:List Fl} (h:OwF w base v fs):∃a c,v=.slice a fs.length c:=h.rd.form
theorem OwP.carry {w w':World} {base:Nat} {v:Value} {ps:List (Fl × Value)} (h:OwP w base v ps) (hb:Below w.heap.size w w'):OwP w' base v ps:=⟨qbk h.1 hb,fun p hp=>(h.2 p hp).carry hb⟩
theorem OwF.carry {w w':World} {base:Nat} {v:Value} {fs:List Fl} (h:OwF w base v fs) (hb:Below w.heap.size w w'):OwF w' base v fs:=by obtain ⟨ps,e,h⟩:=h;exact ⟨ps,e,h.carry hb⟩
theorem OwP.mono {w:World} {base base':Nat} {v:Value} {ps:List (Fl × Value)} (h:OwP w base v ps) (hb:base'≤base):OwP w base' v ps:=⟨qhw h.1 hb,fun p hp=>(h.2 p hp).mono hb⟩
theorem OwF.mono {w:World} {base base':Nat} {v:Value} {fs:List Fl} (h:OwF w base v fs) (hb:base'≤base):OwF w base' v fs:=by obtain ⟨ps,e,h⟩:=h;exact ⟨ps,e,h.mono hb⟩
theorem OwP.nil (w:World) (base:Nat):OwP w base (.slice none 0 0) []:=⟨World.ownsRow_nil w base _ _,by simp⟩
theorem OwF.nil (w:World) (base:Nat):OwF w base (.slice none 0 0) []:=⟨[],rfl,OwP.nil w base⟩
theorem OwE.apartF {w:World} {base:Nat} {v:Value} {l:List Ex} (h:OwE w base v l) {k:Nat} {cs:Array Value} {fr:Nat × Nat} (hk:w.heap[k]? =some (.cells cs 75 fr)):v.ownBlock≠some k:=by
 intro e
 rcases h.2 with ⟨rfl,hn⟩ | ⟨g,cap,cur,rfl,_,hg,_⟩
 ·cases e
 ·cases e
  rw [hk] at hg;cases hg
theorem OwE.keptF {w w':World} {base:Nat} {v:Value} {l:List Ex} (h:OwE w base v l) {vr:Value} {b2 n:Nat} {xs:List Value} (hr:w.ownsRow b2 75 2 vr n xs) (hg:w.grownBy w' vr.ownBlock):OwE w' base v l:=by
 refine World.ownsRow.kept h hg ?_
 rcases hr.2 with ⟨rfl,hn⟩ | ⟨g,cap,cur,rfl,_,hg,_⟩
 ·cases hv:v.ownBlock with
  | none=>exact .inl rfl
  | some k=>exact .inr (by simp [Value.ownBlock])
 ·exact .inr (h.apartF hg)
theorem qd6 (w:World) (cs:Array Value) (t:TypeId):∀j u,cs.toList[j]? =some u→(w.alloc (.cells cs t)).cell? ((⟨w.heap.size,0,none⟩:Addr).add j)=some u:=by
 intro j u hj
 have:=World.news_of_block (w:=w.alloc (.cells cs t)) (heap_alloc_new w _) j u (by simpa using hj)
 simpa using this
theorem qtb {w:World} {base:Nat} {v:Value} {ps:List (Fl × Value)} (h:OwP w base v ps) (hb:base≤w.heap.size) (hl:ps.length≤1000000) (s:List UInt8) (x:Value) (l:List Ex) (hx:OwE w base x l):
  ∃g c w',(Builtin.append_ #[28,28] 28 #[v,.slice (some ⟨w.heap.size,0,none⟩) 1 1]).run Tryz.prog (w.alloc (.cells #[.string (bs s),x] 75))=.ok (.slice (some ⟨g,0,none⟩) (ps.length+1) c) w'∧
   OwP w' base (.slice (some ⟨g,0,none⟩) (ps.length+1) c) (ps++[((s,l),x)])∧Below base w w':=by
 obtain ⟨w8,ew8⟩:∃w8,w8=w.alloc (.cells #[.string (bs s),x] 75):=⟨_,rfl⟩;have hn8:=qd6 w #[.string (bs s),x] 75;rw [←ew8] at hn8 ⊢
 have hb8:Below w.heap.size w w8:=by rw [ew8];exact (Below.refl _ _).alloc (Nat.le_refl _) _
 obtain ⟨i0,hi,hz0,hz1,hz2⟩:=info_parts Tryz.infoFl;have q2:w8.ownsRow base 75 2 v ps.length (qan ps):=qbk h.1 hb8
 obtain ⟨v9,w9,hrun9,hown9,hg9,_⟩:=run_append_own (P:=Tryz.prog) w8 base 28 28 75 i0 _ 2 40 Tryz.underlying28 hi hz0 hz1 hz2 rfl (by decide) _ _ _ q2 ⟨w.heap.size,0,none⟩ 1 1 [.string (bs s),x] rfl hn8 (by
  intro u hu
  simp at hu
  rcases hu with rfl | rfl
  ·rfl
  ·exact hx.ownForm) (by unfold maxLen;omega) (by omega) (Nat.le_trans hb hb8.size)
 have hb9:Below base w w9:=(hb8.mono hb).grown hg9 (Nat.le_trans hb hb8.size) fun k hk=>(q2.lt k hk).1
 have e:qan (ps++[((s,l),x)])=qan ps++[.string (bs s),x]:=by rw [qdr];rfl
 have hle:(ps++[((s,l),x)]).length=ps.length+1:=by simp
 have hin:∀p∈ps++[((s,l),x)],OwE w9 base p.2 p.1.2:=by
  intro p hp
  have h0:OwE w8 base p.2 p.1.2:=by
   rcases List.mem_append.1 hp with hp | hp
   ·exact (h.2 p hp).carry hb8
   ·obtain rfl:p=((s,l),x):=by simpa using hp
    exact hx.carry hb8
  exact h0.keptF q2 hg9
 rcases hown9.2 with ⟨_,h0⟩ | ⟨g,cap,cur,h0,_⟩
 ·exact absurd h0 (by omega)
 ·subst h0
  exact ⟨g,cap,w9,hrun9,⟨by rw [hle,e];exact hown9,hin⟩,hb9⟩
theorem qga {w:World} {base:Nat} {v:Value} {l0:List Ex} (h0:OwE w base v l0) (hb:base≤w.heap.size) {a:Option Addr} {n c:Nat} {l:List Ex} (h:RdE w (.slice a n c) l) (hn:n=l.length) (hl:l0.length+l.length≤1000000):
  ∃b c' w',(Builtin.append_ #[73,73] 73 #[v,.slice a n c]).run Tryz.prog w=.ok (.slice b (l0++l).length c') w'∧OwE w' base (.slice b (l0++l).length c') (l0++l)∧Below base w w':=by
 subst hn;obtain ⟨i0,hi,hz0,hz1,hz2⟩:=info_parts Tryz.infoEx;have q2:w.ownsRow base 116 2 v l0.length (cellsE l0):=h0
 have key:∀ad:Addr,a=some ad→(∀j u,(cellsE l)[j]? =some u→w.cell? (ad.add j)=some u)→∃b c' w',(Builtin.append_ #[73,73] 73 #[v,.slice a l.length c]).run Tryz.prog w=.ok (.slice b (l0++l).length c') w'∧OwE w' base (.slice b (l0++l).length c') (l0++l)∧Below base w w':=by
  rintro ad rfl hn8;obtain ⟨v9,w9,hrun9,hown9,hg9,_⟩:=run_append_own (P:=Tryz.prog) w base 73 73 116 i0 _ 2 16 Tryz.underlying73 hi hz0 hz1 hz2 rfl (by decide) _ _ _ q2 ad l.length c (cellsE l) (qfd l) hn8 (qus l) (by unfold maxLen;omega) (by omega) hb
  have hb9:Below base w w9:=(Below.refl _ _).grown hg9 hb fun k hk=>(q2.lt k hk).1
  rw [←List.length_append,←qeg] at hown9;obtain ⟨b,c',rfl⟩:=OwE.form (l:=l0++l) hown9;exact ⟨b,c',w9,hrun9,hown9,hb9⟩
 rcases h with ⟨rfl,e | ⟨x,d,e⟩⟩ | ⟨b,off,c',e,hc,hm,hcell⟩
 ·cases e
  obtain ⟨b,c',rfl⟩:=h0.form;refine ⟨b,c',w, ?_,by simpa using h0,Below.refl _ _⟩;rw [List.append_nil];exact run_append_owned_none (P:=Tryz.prog) (w:=w) base 73 73 116 i0 2 Tryz.underlying73 hi _ _ _ q2
 ·cases e
  exact key _ rfl (fun j u hj=>by simp [cellsE] at hj)
 ·cases e
  refine key _ rfl fun j u hj=>?_
  have hjl:j<l.length*2:=by rw [←qfd];exact (List.getElem?_eq_some_iff.1 hj).1
  rw [Addr.add_lit];obtain ⟨q,hq⟩:∃q,q=j / 2:=⟨_,rfl⟩
  have hql:q<l.length:=by omega
  obtain ⟨c1,c2⟩:=hcell q hql;obtain ⟨e1,e2⟩:=qgu l q hql
  rcases Nat.mod_two_eq_zero_or_one j with h0 | h0
  ·obtain rfl:j=q*2:=by omega
   rw [e1] at hj;cases hj;exact c1
  ·obtain rfl:j=q*2+1:=by omega
   rw [e2] at hj;cases hj;exact c2
end Go.Proofs.YthilibleedbchaaGreat
