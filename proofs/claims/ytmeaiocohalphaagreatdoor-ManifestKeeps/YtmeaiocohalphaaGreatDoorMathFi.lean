/-
  Layer 5 in plain words: names, files, directories; lists of them.
-/
import Derived.Test.YtmeaiocohalphaaGreatDoorMathRm
import Derived.Lib.Bytealg
namespace Go.Proofs.YtmeaiocohalphaaGreatDoor
def hv:List UInt8→Nat
 | []=>0
 | c::r=>c.toNat % 128+128*hv r
theorem qq9:∀(l:List UInt8) (i acc n k:Nat),i≤9→acc<128 ^ i→rdGo l i acc=some (n,k)→i<k∧k≤i+l.length∧k≤10∧n<18446744073709551616
 | [],i,acc,n,k,_,_,h=>by simp [rdGo] at h
 | c::r,i,acc,n,k,hi,ha,h=>by
  rw [rdGo] at h
  split at h
  ·simp at h
  ·rename_i h9
   split at h
   ·rename_i hge
    have hi9:i≠9:=by intro e;exact h9 ⟨e,by omega⟩
    have:=qq9 r (i+1) _ n k (by omega) (qwc ha) h
    simp only [List.length_cons];omega
   ·rename_i hlt
    split at h
    ·simp at h
    ·simp only [Option.some.injEq,Prod.mk.injEq] at h
     obtain ⟨rfl,rfl⟩:=h;refine ⟨by omega,by simp only [List.length_cons];omega,by omega, ?_⟩
     by_cases e:i=9
     ·subst e
      have h2:c.toNat*128 ^ 9≤1*128 ^ 9:=Nat.mul_le_mul_right _ (by omega);omega
     ·have h3:128 ^ i≤128 ^ 8:=Nat.pow_le_pow_right (by decide) (by omega)
      have h2:c.toNat*128 ^ i≤127*128 ^ 8:=Nat.mul_le_mul (by omega) h3;omega
theorem qtf {l:List UInt8} {n k:Nat} (h:rd l=some (n,k)):0<k∧k≤l.length∧k≤10∧n<18446744073709551616:=by
 have:=qq9 l 0 0 n k (by omega) (by decide) h
 omega
theorem qaja:∀(m:Nat) (r:List UInt8) (i acc:Nat),i≤9→m*128 ^ i<18446744073709551616→(0<i→0<m)→rdGo (sm m++r) i acc=some (acc+m*128 ^ i,i+(sm m).length):=by
 intro m
 induction m using Nat.strongRecOn with
 | ind m ih=>
  intro r i acc hi hm h0
  by_cases hlt:m<128
  ·have e:(UInt8.ofNat m).toNat=m:=by rw [UInt8.toNat_ofNat'];omega
   rw [qo5 hlt]
   simp only [List.cons_append,List.nil_append,List.length_cons,List.length_nil]
   rw [qhl (by
    rw [e];rintro ⟨rfl,h1⟩
    have:2*128 ^ 9≤m*128 ^ 9:=Nat.mul_le_mul_right _ (by omega)
    omega) (by omega) (by rw [e];intro h;have:=h0 h.2;omega),e]
  ·have e:(UInt8.ofNat (m % 128+128)).toNat=m % 128+128:=by rw [UInt8.toNat_ofNat'];omega
   have hi9:i≠9:=by
    rintro rfl
    have:128*128 ^ 9≤m*128 ^ 9:=Nat.mul_le_mul_right _ (by omega)
    omega
   have hp:m / 128*128 ^ (i+1)+m % 128*128 ^ i=m*128 ^ i:=by
    rw [Nat.pow_succ,Nat.mul_comm (128 ^ i) 128,←Nat.mul_assoc,←Nat.add_mul]
    congr 1;omega
   rw [qz6 (by omega),List.cons_append,qq4 hi9 (by omega),e,ih (m / 128) (by omega) r (i+1) _ (by omega) (by omega) (by omega)];rw [show (m % 128+128) % 128=m % 128 by omega]
   simp only [List.length_cons,Option.some.injEq,Prod.mk.injEq]
   omega
theorem qajb (n:Nat) (hn:n<18446744073709551616) (r:List UInt8):rd (sm n++r)=some (n,(sm n).length):=by
 unfold rd;rw [qaja n r 0 0 (by omega) (by omega) (by omega)];simp
def ct (l:List UInt8):Option (List UInt8 × List UInt8):=
 match rd l with
 | none=>none
 | some (n,k)=>if n≤l.length - k then some ((l.drop k).take n,l.drop (k+n)) else none
theorem qaaf {l:List UInt8} (h:rd l=none):ct l=none:=by simp [ct,h]
theorem qaag {l:List UInt8} {n k:Nat} (h:rd l=some (n,k)) (hn:¬n≤l.length - k):ct l=none:=by simp [ct,h,hn]
theorem qtg {l:List UInt8} {n k:Nat} (h:rd l=some (n,k)) (hn:n≤l.length - k):ct l=some ((l.drop k).take n,l.drop (k+n)):=by simp [ct,h,hn]
def tx (s:List UInt8):List UInt8:=sm s.length++s
theorem qajc (s r:List UInt8) (hs:s.length<18446744073709551616):ct (tx s++r)=some (s,r):=by
 have h:=qajb s.length hs (s++r);unfold tx;rw [List.append_assoc];rw [qtg h (by simp)]
 simp [List.drop_append]
end Go.Proofs.YtmeaiocohalphaaGreatDoor
namespace Go.Proofs.YtmeaiocohalphaaGreatDoor
open Go.RowKit
set_option linter.unusedVariables false
set_option linter.unusedSimpArgs false
abbrev Fl:=List UInt8 × List Ex
/-! ### names -/
def ltN:List UInt8→List UInt8→Bool
 | [],[]=>false
 | [],_::_=>true
 | _::_,[]=>false
 | a::s,b::t=>decide (a<b) || ((a==b) && ltN s t)
theorem qaid:∀a b:List UInt8,Op.bytesLess a b=ltN a b
 | [],[]=>by simp [Op.bytesLess,ltN]
 | [],_::_=>by simp [Op.bytesLess,ltN]
 | _::_,[]=>by simp [Op.bytesLess,ltN]
 | a::s,b::t=>by simp [Op.bytesLess,ltN,qaid s t]
theorem qdw:∀a:List UInt8,ltN a a=false
 | []=>rfl
 | a::s=>by simp [ltN,qdw s,UInt8.lt_irrefl]
theorem qem:∀a b c:List UInt8,ltN a b=true→ltN b c=true→ltN a c=true
 | [],[],_,h,_=>by simp [ltN] at h
 | [],_::_,[],_,h=>by simp [ltN] at h
 | [],_::_,_::_,_,_=>rfl
 | _::_,[],_,h,_=>by simp [ltN] at h
 | _::_,_::_,[],_,h=>by simp [ltN] at h
 | a::s,b::t,c::u,h,k=>by
  simp only [ltN,Bool.or_eq_true,Bool.and_eq_true,decide_eq_true_eq,beq_iff_eq] at h k ⊢
  rcases h with h | ⟨rfl,h⟩
  ·rcases k with k | ⟨rfl,k⟩
   ·exact .inl (UInt8.lt_trans h k)
   ·exact .inl h
  ·rcases k with k | ⟨rfl,k⟩
   ·exact .inl k
   ·exact .inr ⟨rfl,qem s t u h k⟩
theorem qkp:∀a b:List UInt8,ltN a b=false→a≠b→ltN b a=true
 | [],[],_,h=>absurd rfl h
 | [],_::_,h,_=>by simp [ltN] at h
 | _::_,[],_,_=>rfl
 | a::s,b::t,h,hne=>by
  simp only [ltN,Bool.or_eq_false_iff,Bool.and_eq_false_iff,decide_eq_false_iff_not,Bool.or_eq_true,Bool.and_eq_true,decide_eq_true_eq,beq_iff_eq] at h ⊢
  obtain ⟨h1,h2⟩:=h
  by_cases e:a=b
  ·subst e
   refine .inr ⟨rfl,qkp s t ?_ (fun e=>hne (by rw [e]))⟩
   rcases h2 with h2 | h2
   ·simp at h2
   ·exact h2
  ·left
   have h3:¬a.toNat<b.toNat:=fun h=>h1 (UInt8.lt_iff_toNat_lt.2 h)
   have h4:a.toNat≠b.toNat:=fun h=>e (UInt8.toNat_inj.1 h)
   exact UInt8.lt_iff_toNat_lt.2 (by omega)
theorem qaah {a b:List UInt8} (h:ltN a b=true):ltN b a=false:=by
 cases k:ltN b a with
 | false=>rfl
 | true=>have:=qem a b a h k;rw [qdw] at this;cases this
theorem qaai {a b:List UInt8} (h:ltN a b=true):a≠b:=by rintro rfl;rw [qdw] at h;cases h
theorem qth:∀a b:List UInt8,(Lib.compareBytes a b<0↔ltN a b=true)∧(Lib.compareBytes a b=0↔a=b)
 | [],[]=>by simp [Lib.compareBytes,ltN]
 | [],_::_=>by simp [Lib.compareBytes,ltN]
 | _::_,[]=>by simp [Lib.compareBytes,ltN]
 | a::s,b::t=>by
  have ih:=qth s t
  by_cases h1:a<b
  ·have hne:a≠b:=by rintro rfl;exact UInt8.lt_irrefl _ h1
   simp [Lib.compareBytes,ltN,h1,hne]
  ·by_cases h2:b<a
   ·have hne:a≠b:=by rintro rfl;exact UInt8.lt_irrefl _ h2
    simp [Lib.compareBytes,ltN,h1,h2,hne]
   ·have e:a=b:=by
     have h3:¬a.toNat<b.toNat:=fun h=>h1 (UInt8.lt_iff_toNat_lt.2 h)
     have h4:¬b.toNat<a.toNat:=fun h=>h2 (UInt8.lt_iff_toNat_lt.2 h)
     exact UInt8.toNat_inj.1 (by omega)
    subst e
    simp [Lib.compareBytes,ltN,UInt8.lt_irrefl,ih.1,ih.2]
def qb2 (s:List UInt8):Bool:=decide (1≤s.length) && decide (s.length≤16)
/-! ### files -/
def qao (fs:List Fl):List Ex:=fs.flatMap (·.2)
def bytX (x:Ex):List UInt8:=sm x.1.toNat++sm x.2.toNat
def bytE (l:List Ex):List UInt8:=l.flatMap bytX
def qdg (f:Fl):List UInt8:=tx f.1++(sm f.2.length++bytE f.2)
def bytF (fs:List Fl):List UInt8:=sm fs.length++fs.flatMap qdg
def oneF (f:Fl):Bool:=qb2 f.1 && decide (1≤f.2.length) && decide (f.2.length≤64)
def qcf (fs:List Fl):Prop:=fs.Pairwise fun f g=>ltN f.1 g.1=true
instance (fs:List Fl):Decidable (qcf fs):=inferInstanceAs (Decidable (fs.Pairwise _))
def qef (fs:List Fl):Prop:=(∀f∈fs,oneF f=true)∧qcf fs
instance (fs:List Fl):Decidable (qef fs):=inferInstanceAs (Decidable (_∧_))
def extP (l:List Ex) (b:Int):Prop:=chkX l=0∧∀x∈l,34≤x.1∧x.1+x.2≤b
instance (l:List Ex) (b:Int):Decidable (extP l b):=inferInstanceAs (Decidable (_∧_))
def mayF (fs:List Fl) (b:Int):Prop:=fs.length≤40∧qef fs∧extP (qao fs) b∧(bytF fs).length≤2048
instance (fs:List Fl) (b:Int):Decidable (mayF fs b):=inferInstanceAs (Decidable (_∧_))
def blkP (b:Int):Prop:=34<b∧b≤4096
instance (b:Int):Decidable (blkP b):=inferInstanceAs (Decidable (_∧_))
def chkF (fs:List Fl) (b:Int):Int:=if ¬blkP b then 2 else if mayF fs b then 0 else 8
def posF (fs:List Fl) (s:List UInt8):Nat:=fs.countP fun f=>ltN f.1 s
def isF (fs:List Fl) (s:List UInt8):Bool:=fs.any fun f=>f.1==s
def getF (fs:List Fl) (s:List UInt8):List Ex:=((fs.find? fun f=>f.1==s).map (·.2)).getD []
def insF (fs:List Fl) (f:Fl):List Fl:=fs.take (posF fs f.1)++f::fs.drop (posF fs f.1)
def delF (fs:List Fl) (s:List UInt8):List Fl:=fs.filter fun f=>!(f.1==s)
def qa0 (fs:List Fl) (s:List UInt8):Int:=if chkF fs 4096≠0 then chkF fs 4096 else if qb2 s=false then 50 else if isF fs s then 0 else 6
def qff (fs:List Fl) (s:List UInt8):Fl:=if qa0 fs s=0 then (s,getF fs s) else ([],[])
def fitE (fs:List Fl):Int:=if (bytF fs).length≤2048 then 0 else 40
def qaz (fs:List Fl) (s:List UInt8) (l:List Ex) (b:Int):Int:=
 if chkF fs b≠0 then chkF fs b else if qb2 s=false then 50 else if isF fs s then 51 else if l=[]∨¬extP (qao fs++l) b then 8
 else if fs.length=40∨64<l.length then 40 else fitE (insF fs (s,l))
def qcv (fs:List Fl) (s:List UInt8) (l:List Ex) (b:Int):List Fl:=if qaz fs s l b=0 then insF fs (s,l) else []
def renF (fs:List Fl) (s t:List UInt8):List Fl:=insF (delF (delF fs s) t) (t,getF fs s)
def qbe (fs:List Fl) (s t:List UInt8):Int:=
 if chkF fs 4096≠0 then chkF fs 4096 else if qb2 s=false∨qb2 t=false then 50 else if isF fs s then fitE (renF fs s t) else 6
def qcd (fs:List Fl) (s t:List UInt8):List Fl:=if qbe fs s t=0 then renF fs s t else []
def qew (fs:List Fl):List Ex:=if chkF fs 4096=0 then qao fs else []
def qd1 (fs:List Fl) (b:Int):List UInt8:=if chkF fs b=0 then bytF fs else []
theorem qyl (fs:List Fl) (k:Nat) (h:k<fs.length):qao (fs.take (k+1))=qao (fs.take k)++(fs[k]).2:=by
 unfold qao;rw [List.take_succ_eq_append_getElem h,List.flatMap_append]
 simp
theorem qaaj (fs:List Fl) (k:Nat) (h:k<fs.length):(fs.take (k+1)).flatMap qdg=(fs.take k).flatMap qdg++qdg fs[k]:=by
 rw [List.take_succ_eq_append_getElem h,List.flatMap_append]
 simp
theorem qaak (l:List Ex) (k:Nat) (h:k<l.length):bytE (l.take (k+1))=bytE (l.take k)++bytX l[k]:=by
 unfold bytE;rw [List.take_succ_eq_append_getElem h,List.flatMap_append]
 simp
theorem qym {fs:List Fl} {f:Fl} (h:qcf (fs++[f])):qcf fs∧∀g∈fs,ltN g.1 f.1=true:=by
 unfold qcf at h;rw [List.pairwise_append] at h;exact ⟨h.1,fun g hg=>h.2.2 g hg f (by simp)⟩
theorem qaal {fs:List Fl} {f:Fl} (h:qcf fs) (hk:fs=[]∨∃p g,fs=p++[g]∧ltN g.1 f.1=true):qcf (fs++[f]):=by
 unfold qcf;rw [List.pairwise_append];refine ⟨h,by simp, ?_⟩;intro g hg x hx
 obtain rfl:x=f:=by simpa using hx
 rcases hk with rfl | ⟨p,y,rfl,hy⟩
 ·simp at hg
 ·rcases List.mem_append.1 hg with hg | hg
  ·exact qem _ _ _ ((qym h).2 g hg) hy
  ·obtain rfl:g=y:=by simpa using hg
   exact hy
theorem qaam:qef []:=⟨by simp,List.Pairwise.nil⟩
theorem qbd {α:Type} (l:List α) (k:Nat) (h:k<l.length):l.take (k+1)=l.take k++[l[k]]:=List.take_succ_eq_append_getElem h
theorem qis {fs:List Fl} {k:Nat} (h:k<fs.length) (hb:oneF fs[k]=false):¬qef fs:=fun e=>by
 have:=e.1 fs[k] (List.getElem_mem h);rw [hb] at this;cases this
theorem qyn {fs:List Fl} {k:Nat} (h:k+1<fs.length) (hb:ltN (fs[k]).1 (fs[k+1]).1=false):¬qef fs:=fun e=>by
 have:=List.pairwise_iff_getElem.1 e.2 k (k+1) (by omega) h (by omega);rw [hb] at this;cases this
theorem qno {fs:List Fl} {k:Nat} (h:k<fs.length) (he:qef (fs.take k)) (ho:oneF fs[k]=true) (hl:∀j,(hj:j+1=k)→ltN (fs[j]).1 (fs[k]).1=true):qef (fs.take (k+1)):=by
 rw [qbd fs k h];refine ⟨?_,qaal he.2 ?_⟩
 ·intro f hf
  rcases List.mem_append.1 hf with hf | hf
  ·exact he.1 f hf
  ·obtain rfl:f=fs[k]:=by simpa using hf
   exact ho
 ·cases k with
  | zero=>left;simp
  | succ j=>
   right
   exact ⟨fs.take j,fs[j],qbd fs j (by omega),hl j rfl⟩
theorem qf9 {f:Fl} (h:oneF f=true):1≤f.1.length∧f.1.length≤16∧1≤f.2.length∧f.2.length≤64:=by
 simp only [oneF,qb2,Bool.and_eq_true,decide_eq_true_eq] at h
 omega
theorem qajd {fs:List Fl} {s:List UInt8} {i:Nat} (hi:i≤fs.length) (h1:∀t,(h:t<fs.length)→t<i→ltN (fs[t]).1 s=true) (h2:∀t,(h:t<fs.length)→i≤t→ltN (fs[t]).1 s=false):posF fs s=i:=by
 have e:fs=fs.take i++fs.drop i:=(List.take_append_drop i fs).symm;unfold posF;rw [e,List.countP_append]
 have a1:(fs.take i).countP (fun f=>ltN f.1 s)=i:=by
  have:(fs.take i).countP (fun f=>ltN f.1 s)=(fs.take i).length:=by
   rw [List.countP_eq_length];intro f hf;obtain ⟨t,ht,rfl⟩:=List.mem_iff_getElem.1 hf;rw [List.length_take] at ht;rw [List.getElem_take];exact h1 t (by omega) (by omega)
  rw [this,List.length_take];omega
 have a2:(fs.drop i).countP (fun f=>ltN f.1 s)=0:=by
  rw [List.countP_eq_zero];intro f hf;obtain ⟨t,ht,rfl⟩:=List.mem_iff_getElem.1 hf;rw [List.length_drop] at ht;rw [List.getElem_drop]
  simp [h2 (i+t) (by omega) (by omega)]
 omega
theorem qaan (fs:List Fl) (s:List UInt8):posF fs s≤fs.length:=List.countP_le_length
theorem qj0 {fs:List Fl} (h:qcf fs) {i j:Nat} (hij:i<j) (hj:j<fs.length):ltN (fs[i]).1 (fs[j]).1=true:=List.pairwise_iff_getElem.1 h i j (by omega) hj hij
theorem qpb {fs:List Fl} (hr:qcf fs) (s:List UInt8):∀t,(h:t<fs.length)→(t<posF fs s→ltN (fs[t]).1 s=true)∧(posF fs s≤t→ltN (fs[t]).1 s=false):=by
 induction fs with
 | nil=>intro t h;simp at h
 | cons f r ih=>
  have hr':qcf r:=(List.pairwise_cons.1 hr).2;have hf:=(List.pairwise_cons.1 hr).1;intro t h
  cases hl:ltN f.1 s with
  | true=>
   have e:posF (f::r) s=posF r s+1:=by unfold posF;rw [List.countP_cons];simp [hl]
   rw [e]
   cases t with
   | zero=>exact ⟨fun _=>hl,fun h=>by omega⟩
   | succ t=>
    have:=ih hr' t (by simpa using h)
    simp only [List.getElem_cons_succ]
    exact ⟨fun h=>this.1 (by omega),fun h=>this.2 (by omega)⟩
  | false=>
   have z:∀g∈f::r,ltN g.1 s=false:=by
    intro g hg
    rcases List.mem_cons.1 hg with rfl | hg
    ·exact hl
    ·cases k:ltN g.1 s with
     | false=>rfl
     | true=>have:=qem _ _ _ (hf g hg) k;rw [hl] at this;cases this
   have e:posF (f::r) s=0:=by
    unfold posF;rw [List.countP_eq_zero];intro g hg
    simp [z g hg]
   rw [e];exact ⟨fun h=>by omega,fun _=>z _ (List.getElem_mem h)⟩
theorem qaie {fs:List Fl} (hr:qcf fs) (s:List UInt8):isF fs s=(if h:posF fs s<fs.length then (fs[posF fs s]).1==s else false):=by
 by_cases h:posF fs s<fs.length
 ·rw [dif_pos h]
  cases hq:(fs[posF fs s]).1==s with
  | true=>unfold isF;rw [List.any_eq_true];exact ⟨_,List.getElem_mem h,hq⟩
  | false=>
   unfold isF;rw [List.any_eq_false];intro g hg;obtain ⟨t,ht,rfl⟩:=List.mem_iff_getElem.1 hg;intro e
   have e:(fs[t]).1=s:=by simpa using e
   have p:=qpb hr s t ht
   have h1:ltN (fs[t]).1 s=false:=by rw [e];exact qdw s
   have h2:posF fs s≤t:=by
    rcases Nat.lt_or_ge t (posF fs s) with h | h
    ·rw [p.1 h] at h1;cases h1
    ·exact h
   rcases Nat.lt_or_eq_of_le h2 with h3 | h3
   ·have:=qj0 hr h3 ht
    rw [e] at this
    have:=(qpb hr s _ h).2 (Nat.le_refl _)
    simp_all
   ·subst h3;rw [e] at hq;simp at hq
 ·rw [dif_neg h]
  unfold isF;rw [List.any_eq_false];intro g hg;obtain ⟨t,ht,rfl⟩:=List.mem_iff_getElem.1 hg;intro e
  have e:(fs[t]).1=s:=by simpa using e
  have:=(qpb hr s t ht).1 (by omega)
  rw [e,qdw] at this;cases this
theorem qaao {fs:List Fl} (hr:qcf fs) {s:List UInt8} {t:Nat} (ht:t<fs.length) (e:(fs[t]).1=s):getF fs s=(fs[t]).2:=by
 have:fs.find? (fun f=>f.1==s)=some fs[t]:=by
  rw [List.find?_eq_some_iff_getElem];refine ⟨by simp [e],t,ht,rfl, ?_⟩;intro j hj
  have:=qj0 hr hj ht
  rw [e] at this
  have:=qaai this
  simp [this]
 simp [getF,this]
theorem qwe {fs:List Fl} (hr:qcf fs) {s:List UInt8} (h:isF fs s=true):∃hp:posF fs s<fs.length,(fs[posF fs s]).1=s∧getF fs s=(fs[posF fs s]).2:=by
 rw [qaie hr] at h
 by_cases hp:posF fs s<fs.length
 ·rw [dif_pos hp] at h
  have e:(fs[posF fs s]).1=s:=by simpa using h
  exact ⟨hp,e,qaao hr hp e⟩
 ·rw [dif_neg hp] at h;cases h
theorem qhn {fs:List Fl} (h:qcf fs) (s:List UInt8):qcf (delF fs s):=List.Pairwise.sublist List.filter_sublist h
end Go.Proofs.YtmeaiocohalphaaGreatDoor
