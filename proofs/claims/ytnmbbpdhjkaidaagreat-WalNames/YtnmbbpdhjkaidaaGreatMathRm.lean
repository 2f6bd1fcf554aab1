/-
  Plain mathematics of extents: which may be, which are apart, their blocks, what is free, what is taken. No program is named here.
-/
import Derived.Test.YtnmbbpdhjkaidaaGreatRegD
namespace Go.Proofs.YtnmbbpdhjkaidaaGreat
open Go.RowKit
set_option linter.all false
abbrev Ex:=Int × Int
def wfX (x:Ex):Prop:=-9223372036854775808≤x.1∧x.1≤9223372036854775807∧-9223372036854775808≤x.2∧x.2≤9223372036854775807
def mayX (x:Ex):Bool:=decide (0≤x.1) && decide (1≤x.2) && decide (x.1+x.2≤4096)
theorem qb7 (x:Ex):mayX x=true↔0≤x.1∧1≤x.2∧x.1+x.2≤4096:=by simp [mayX,and_assoc]
def allX (l:List Ex):Int:=if 4096<l.length then 4 else if l.all mayX then 0 else 8
def inX (x:Ex) (n:Int):Bool:=decide (x.1≤n) && decide (n<x.1+x.2)
def inL (l:List Ex) (n:Int):Bool:=l.any fun x=>inX x n
def qjk (a b:Ex):Bool:=decide (a.1<b.1+b.2) && decide (b.1<a.1+a.2)
def apX:List Ex→Bool
 | []=>true
 | x::r=>r.all (fun y=>!qjk y x) && apX r
def chkX (l:List Ex):Int:=if allX l≠0 then allX l else if apX l then 0 else 8
def qbh (l:List Ex):Int:=(l.map (·.2)).sum
def blkX (x:Ex) (k:Nat):List Int:=(List.range k).map fun (i:Nat)=>x.1+(i:Int)
def qau (l:List Ex):List Int:=l.flatMap fun x=>blkX x x.2.toNat
def qkn (l:List Ex) (n:Int):List Ex:=
 match l.getLast? with
 | none=>[(n,1)]
 | some x=>if x.1+x.2=n then l.dropLast++[(x.1,x.2+1)] else l++[(n,1)]
def qdo (u:Int→Bool) (a:Int):Nat→List Ex
 | 0=>[]
 | k+1=>if u (a+k) then qdo u a k else qkn (qdo u a k) (a+k)
def qcv (a b:Int) (l:List Ex):Int:=if a<0∨b<a∨4096<b then 2 else allX l
def qde (a b:Int) (l:List Ex):List Ex:=if qcv a b l=0 then qdo (inL l) a (b - a).toNat else []
def cutX:List Ex→Int→Option (List Ex)
 | [],_=>none
 | x::r,w=>if w≤x.2 then some [(x.1,w)] else (cutX r (w - x.2)).map (x::·)
def cutE (l:List Ex) (w:Int):Int:=if (cutX l w).isSome then 0 else 40
def qd3 (a b:Int) (l:List Ex) (w:Int):Int:=
 if qcv a b l≠0 then qcv a b l else if w<1∨4096<w then 2 else cutE (qde a b l) w
def qcl (a b:Int) (l:List Ex) (w:Int):List Ex:=
 if qcv a b l≠0 then [] else if w<1∨4096<w then [] else (cutX (qde a b l) w).getD []
theorem qeg {l:List Ex} (h:allX l=0):l.length≤4096∧∀x∈l,0≤x.1∧1≤x.2∧x.1+x.2≤4096:=by
 unfold allX at h
 split at h
 ·cases h
 ·split at h
  ·rename_i h1 h2
   rw [List.all_eq_true] at h2;exact ⟨by omega,fun x hx=>(qb7 x).1 (h2 x hx)⟩
  ·cases h
theorem qko {l:List Ex} (h:l.length≤4096) (h':∀x∈l,0≤x.1∧1≤x.2∧x.1+x.2≤4096):allX l=0:=by
 unfold allX;rw [if_neg (by omega),if_pos];rw [List.all_eq_true]
 exact fun x hx=>(qb7 x).2 (h' x hx)
theorem quc (l:List Ex):(allX l=4∧4096<l.length)∨(allX l=8∧l.length≤4096∧∃x∈l,mayX x=false)∨(allX l=0∧l.length≤4096∧∀x∈l,mayX x=true):=by
 unfold allX
 by_cases h:4096<l.length
 ·exact .inl ⟨if_pos h,h⟩
 ·rw [if_neg h]
  cases h2:l.all mayX with
  | true=>exact .inr (.inr ⟨if_pos rfl,by omega,by rwa [List.all_eq_true] at h2⟩)
  | false=>
   refine .inr (.inl ⟨if_neg (by simp),by omega, ?_⟩);rw [List.all_eq_false] at h2;obtain ⟨x,hx,e⟩:=h2;exact ⟨x,hx,by simpa using e⟩
theorem qaaf {l:List Ex} {k:Nat} (hk:k<l.length) (hl:l.length≤4096) (h:mayX l[k]=false):allX l=8:=by
 rcases quc l with ⟨_,h1⟩ | ⟨h1,_⟩ | ⟨_,_,h1⟩
 ·omega
 ·exact h1
 ·rw [h1 _ (List.getElem_mem hk)] at h;cases h
theorem qwj {l:List Ex} (hl:l.length≤4096) (h:∀x∈l.take l.length,mayX x=true):allX l=0:=
 qko hl fun x hx=>(qb7 x).1 (h x (by simpa using hx))
theorem qme (a b:Ex):qjk a b=qjk b a:=by unfold qjk;rw [Bool.and_comm]
theorem qnk {a b:Ex} (ha:1≤a.2) (hb:1≤b.2):qjk a b=true↔∃n,inX a n=true∧inX b n=true:=by
 simp only [qjk,inX,Bool.and_eq_true,decide_eq_true_eq]
 constructor
 ·intro h
  exact ⟨max a.1 b.1,⟨by omega,by omega⟩,by omega,by omega⟩
 ·rintro ⟨n,h1,h2⟩
  omega
theorem qmf (l m:List Ex):apX (l++m)=(apX l && apX m && m.all fun y=>l.all fun x=>!qjk y x):=by
 induction l with
 | nil=>simp [apX]
 | cons x r ih=>
  rw [List.cons_append,apX,ih,apX];rw [Bool.eq_iff_iff]
  simp only [List.all_append,Bool.and_eq_true,List.all_eq_true,List.all_cons,Bool.not_eq_true']
  constructor
  ·rintro ⟨⟨h1,h2⟩,⟨h3,h4⟩,h5⟩
   exact ⟨⟨⟨h1,h3⟩,h4⟩,fun y hy=>⟨h2 y hy,h5 y hy⟩⟩
  ·rintro ⟨⟨⟨h1,h3⟩,h4⟩,h5⟩
   exact ⟨⟨h1,fun y hy=>(h5 y hy).1⟩,⟨h3,h4⟩,fun y hy=>(h5 y hy).2⟩
theorem qjt (l:List Ex) (x:Ex):apX (l++[x])=(apX l && l.all fun y=>!qjk x y):=by
 rw [qmf];simp [apX]
theorem qci {α:Type} (l:List α) (k:Nat) (h:k<l.length):l.take (k+1)=l.take k++[l[k]]:=by
 rw [List.take_add_one,List.getElem?_eq_getElem h];rfl
theorem qud {l:List Ex} {k:Nat} (hk:k≤l.length) (ha:allX l=0) (h:apX (l.take k)=false):chkX l=8:=by
 have:apX l=false:=by
  rw [←List.take_append_drop k l,qmf,h];simp
 unfold chkX
 rw [if_neg (by simp [ha]),this];rfl
theorem qaag {l:List Ex} (ha:allX l≠0):chkX l=allX l:=by unfold chkX;rw [if_pos ha]
theorem qkp {l:List Ex} (ha:allX l=0) (h:apX l=true):chkX l=0:=by
 unfold chkX;rw [if_neg (by simp [ha]),if_pos h]
theorem qnl {l:List Ex} (h:chkX l=0):allX l=0∧apX l=true:=by
 unfold chkX at h
 split at h
 ·contradiction
 ·rename_i h1
  split at h
  ·rename_i h2;exact ⟨by simpa using h1,h2⟩
  ·cases h
theorem qgq (l:List Ex) (x:Ex) (n:Int):inL (l++[x]) n=(inL l n || inX x n):=by simp [inL]
theorem qnm (l:List Ex) (n:Int):inL l n=true↔∃x∈l,x.1≤n∧n<x.1+x.2:=by simp [inL,inX]
theorem qin (l:List Ex) (x:Ex):qbh (l++[x])=qbh l+x.2:=by simp [qbh]
theorem qq3 {l:List Ex} (h:∀x∈l,0≤x.1∧1≤x.2∧x.1+x.2≤4096):0≤qbh l∧qbh l≤4096*l.length:=by
 induction l with
 | nil=>simp [qbh]
 | cons x r ih=>
  have:=ih fun y hy=>h y (List.mem_cons_of_mem _ hy)
  have h0:=h x (List.mem_cons_self ..);have e:qbh (x::r)=x.2+qbh r:=rfl;rw [e,List.length_cons];omega
theorem qwk (x:Ex) (k:Nat):blkX x (k+1)=blkX x k++[x.1+(k:Int)]:=by simp [blkX,List.range_succ]
theorem qsm (x:Ex) (k:Nat):(blkX x k).length=k:=by simp [blkX]
theorem qo2 (l:List Ex) (x:Ex):qau (l++[x])=qau l++blkX x x.2.toNat:=by simp [qau]
theorem qq4 {l:List Ex} (h:∀x∈l,1≤x.2):((qau l).length:Int)=qbh l:=by
 induction l with
 | nil=>rfl
 | cons x r ih=>
  have:=ih fun y hy=>h y (List.mem_cons_of_mem _ hy)
  have h0:=h x (List.mem_cons_self ..);have e:qbh (x::r)=x.2+qbh r:=rfl;have e2:qau (x::r)=blkX x x.2.toNat++qau r:=rfl;rw [e,e2,List.length_append,qsm];omega
/-! ### what is free -/
theorem qio (n:Int):qkn [] n=[(n,1)]:=rfl
theorem qe4 (l:List Ex) (x:Ex) (n:Int):qkn (l++[x]) n=if x.1+x.2=n then l++[(x.1,x.2+1)] else l++[x]++[(n,1)]:=by
 unfold qkn;simp
theorem qwl (l:List Ex) (n:Int):(qkn l n).length≤l.length+1:=by
 rcases List.eq_nil_or_concat l with rfl | ⟨l',x,rfl⟩
 ·simp [qio]
 ·rw [List.concat_eq_append,qe4];split<;>simp
theorem qkq (u:Int→Bool) (a:Int):∀k,(qdo u a k).length≤k
 | 0=>by simp [qdo]
 | k+1=>by
  have:=qkq u a k
  unfold qdo
  split
  ·omega
  ·have:=qwl (qdo u a k) (a+k);omega
def qjl (a b:Int) (l:List Ex):Prop:=(∀x∈l,a≤x.1∧1≤x.2∧x.1+x.2≤b)∧l.Pairwise fun x y=>x.1+x.2<y.1
theorem que {a b:Int} {l:List Ex} (h:qjl a b l) (hab:a≤b):qjl a (b+1) (qkn l b):=by
 rcases List.eq_nil_or_concat l with rfl | ⟨l',x,rfl⟩
 ·rw [qio]
  refine ⟨fun x hx=>?_,by simp⟩
  obtain rfl:x=(b,1):=by simpa using hx
  simp;omega
 ·rw [List.concat_eq_append] at h ⊢
  obtain ⟨h1,h2⟩:=h;rw [List.pairwise_append] at h2;obtain ⟨h3, -,h4⟩:=h2;have hx:=h1 x (by simp);rw [qe4]
  split
  ·rename_i e
   refine ⟨fun y hy=>?_, ?_⟩
   ·rcases List.mem_append.1 hy with hy | hy
    ·have:=h1 y (List.mem_append_left _ hy);omega
    ·obtain rfl:y=(x.1,x.2+1):=by simpa using hy
     simp;omega
   ·rw [List.pairwise_append]
    refine ⟨h3,by simp,fun y hy z hz=>?_⟩
    obtain rfl:z=(x.1,x.2+1):=by simpa using hz
    exact h4 y hy x (by simp)
  ·rename_i e
   refine ⟨fun y hy=>?_, ?_⟩
   ·rcases List.mem_append.1 hy with hy | hy
    ·have:=h1 y hy;omega
    ·obtain rfl:y=(b,1):=by simpa using hy
     simp;omega
   ·rw [List.pairwise_append]
    refine ⟨by rw [List.pairwise_append];exact ⟨h3,by simp,h4⟩,by simp,fun y hy z hz=>?_⟩
    obtain rfl:z=(b,1):=by simpa using hz
    show y.1+y.2<b
    rcases List.mem_append.1 hy with hy | hy
    ·have:=h4 y hy x (by simp)
     have:=h1 y (List.mem_append_left _ hy);omega
    ·obtain rfl:y=x:=by simpa using hy
     omega
theorem qaah {a b:Int} {l:List Ex} (h:qjl a b l) (n:Int):inL (qkn l b) n=(inL l n || decide (n=b)):=by
 rcases List.eq_nil_or_concat l with rfl | ⟨l',x,rfl⟩
 ·rw [qio,Bool.eq_iff_iff];simp [inL,inX];omega
 ·rw [List.concat_eq_append] at h ⊢
  have hx:=h.1 x (by simp);rw [qe4]
  split
  ·rename_i e
   rw [qgq,qgq,Bool.or_assoc]
   congr 1
   rw [Bool.eq_iff_iff];simp [inX];omega
  ·rw [qgq]
   congr 1
   rw [Bool.eq_iff_iff];simp [inX];omega
theorem quf {a b b':Int} {l:List Ex} (h:qjl a b l) (hb:b≤b'):qjl a b' l:=⟨fun x hx=>by have:=h.1 x hx;omega,h.2⟩
theorem qip (u:Int→Bool) (a:Int):∀k:Nat,qjl a (a+k) (qdo u a k)∧∀n,inL (qdo u a k) n=(decide (a≤n) && decide (n<a+k) && !u n)
 | 0=>by
  refine ⟨⟨by simp [qdo],by simp [qdo]⟩,fun n=>?_⟩
  rw [Bool.eq_iff_iff];simp [qdo,inL];omega
 | k+1=>by
  obtain ⟨h1,h2⟩:=qip u a k
  have e:a+((k+1:Nat):Int)=a+k+1:=by omega
  rw [e];unfold qdo
  split
  ·rename_i hu
   refine ⟨quf h1 (by omega),fun n=>?_⟩;rw [h2,Bool.eq_iff_iff]
   simp only [Bool.and_eq_true,decide_eq_true_eq,Bool.not_eq_true']
   constructor
   ·rintro ⟨⟨q1,q2⟩,q3⟩;exact ⟨⟨q1,by omega⟩,q3⟩
   ·rintro ⟨⟨q1,q2⟩,q3⟩
    refine ⟨⟨q1, ?_⟩,q3⟩
    have:n≠a+k:=by rintro rfl;rw [hu] at q3;cases q3
    omega
  ·rename_i hu
   refine ⟨que h1 (by omega),fun n=>?_⟩;rw [qaah h1,h2,Bool.eq_iff_iff]
   simp only [Bool.and_eq_true,decide_eq_true_eq,Bool.not_eq_true',Bool.or_eq_true]
   constructor
   ·rintro (⟨⟨q1,q2⟩,q3⟩ | rfl)
    ·exact ⟨⟨q1,by omega⟩,q3⟩
    ·exact ⟨⟨by omega,by omega⟩,by simpa using hu⟩
   ·rintro ⟨⟨q1,q2⟩,q3⟩
    by_cases e:n=a+k
    ·exact .inr e
    ·exact .inl ⟨⟨q1,by omega⟩,q3⟩
theorem qnn {a b:Int} {l:List Ex} (h:qcv a b l=0):0≤a∧a≤b∧b≤4096∧allX l=0:=by
 unfold qcv at h
 split at h
 ·cases h
 ·rename_i h1
  exact ⟨by omega,by omega,by omega,h⟩
theorem qe5 {a b:Int} {l:List Ex} (h:qcv a b l=0):qjl a b (qde a b l)∧(∀n,inL (qde a b l) n=(decide (a≤n) && decide (n<b) && !inL l n))∧(qde a b l).length≤4096:=by
 obtain ⟨h1,h2,h3,_⟩:=qnn h
 have:=qip (inL l) a (b - a).toNat
 have e:a+((b - a).toNat:Int)=b:=by omega
 rw [e] at this;unfold qde;rw [if_pos h];exact ⟨this.1,this.2,by have:=qkq (inL l) a (b - a).toNat;omega⟩
theorem qwm {a b:Int} {l:List Ex} (h:qjl a b l) (ha:0≤a) (hb:b≤4096) (hl:l.length≤4096):chkX l=0:=by
 refine qkp (qko hl fun x hx=>by have:=h.1 x hx;omega) ?_
 obtain ⟨h0,h1⟩:=h;clear hl
 induction l with
 | nil=>rfl
 | cons x r ih=>
  rw [List.pairwise_cons] at h1;rw [apX,ih (fun y hy=>h0 y (List.mem_cons_of_mem _ hy)) h1.2,Bool.and_true,List.all_eq_true];intro y hy
  have:=h1.1 y hy
  simp [qjk];omega
/-! ### what is taken -/
theorem qkr:∀(l:List Ex) (w:Int),1≤w→(∀x∈l,1≤x.2)→
  (cutX l w=none∧qbh l<w)∨∃p x q c,l=p++x::q∧cutX l w=some (p++[(x.1,c)])∧1≤c∧c≤x.2∧qbh p+c=w
 | [],w,hw,_=>.inl ⟨rfl,by simp [qbh];omega⟩
 | x::r,w,hw,h=>by
  have hx:=h x (List.mem_cons_self ..);have e:qbh (x::r)=x.2+qbh r:=rfl;unfold cutX
  split
  ·rename_i h1
   exact .inr ⟨[],x,r,w,rfl,rfl,hw,h1,by simp [qbh]⟩
  ·rename_i h1
   rcases qkr r (w - x.2) (by omega) (fun y hy=>h y (List.mem_cons_of_mem _ hy)) with ⟨h2,h3⟩ | ⟨p,y,q,c,rfl,h3,h4,h5,h6⟩
   ·exact .inl ⟨by rw [h2];rfl,by rw [e];omega⟩
   ·refine .inr ⟨x::p,y,q,c,rfl,by rw [h3];rfl,h4,h5, ?_⟩
    have e2:qbh (x::p)=x.2+qbh p:=rfl
    rw [e2];omega
theorem qq5:∀(l:List Ex) (w:Int) (k:Nat),k≤l.length→qbh (l.take k)<w→(∀x∈l,1≤x.2)→cutX l w=(cutX (l.drop k) (w - qbh (l.take k))).map (l.take k++·)
 | l,w,0,_,_,_=>by simp [qbh]
 | [],w,k+1,h,_,_=>by simp at h
 | x::r,w,k+1,h,h1,h2=>by
  have e:qbh ((x::r).take (k+1))=x.2+qbh (r.take k):=rfl;rw [e] at h1 ⊢
  have h0:0≤qbh (r.take k):=by
   have:∀(l:List Ex),(∀x∈l,1≤x.2)→0≤qbh l:=by
    intro l
    induction l with
    | nil=>intro _;simp [qbh]
    | cons y l ih=>
     intro hh
     have:=ih fun z hz=>hh z (List.mem_cons_of_mem _ hz)
     have:=hh y (List.mem_cons_self ..)
     have e:qbh (y::l)=y.2+qbh l:=rfl;omega
   exact this _ fun y hy=>h2 y (List.mem_cons_of_mem _ (List.mem_of_mem_take hy))
  have ih:=qq5 r (w - x.2) k (by simpa using h) (by omega) (fun y hy=>h2 y (List.mem_cons_of_mem _ hy));rw [cutX,if_neg (by omega),ih,List.drop_succ_cons,List.take_succ_cons];rw [show w - x.2 - qbh (r.take k)=w - (x.2+qbh (r.take k)) by omega,Option.map_map];rfl
theorem qo3 (x:Ex) (r:List Ex) (w:Int):cutX (x::r) w=if w≤x.2 then some [(x.1,w)] else (cutX r (w - x.2)).map (x::·):=rfl
theorem qwn {l:List Ex} {w:Int} {k:Nat} (hk:k<l.length) (h:qbh (l.take k)<w) (h1:∀x∈l,1≤x.2) (h2:w - qbh (l.take k)≤(l[k]).2):cutX l w=some (l.take k++[((l[k]).1,w - qbh (l.take k))]):=by
 rw [qq5 l w k (by omega) h h1,List.drop_eq_getElem_cons hk,qo3,if_pos h2];rfl
theorem qaai {l:List Ex} {w:Int} (h:qbh l<w) (h1:∀x∈l,1≤x.2):cutX l w=none:=by
 have:=qq5 l w l.length (Nat.le_refl _) (by simpa using h) h1
 rw [this];simp [cutX]
theorem qmg {a b:Int} {l:List Ex} {w:Int} (h:qcv a b l≠0):qd3 a b l w=qcv a b l∧qcl a b l w=[]:=by
 unfold qd3 qcl;rw [if_pos h,if_pos h];exact ⟨rfl,rfl⟩
theorem qhq {a b:Int} {l:List Ex} {w:Int} (h:qcv a b l=0) (hw:w<1∨4096<w):qd3 a b l w=2∧qcl a b l w=[]:=by
 have hn:¬(qcv a b l≠0):=by simp [h]
 unfold qd3 qcl;rw [if_neg hn,if_neg hn,if_pos hw,if_pos hw];exact ⟨rfl,rfl⟩
theorem qug {a b:Int} {l:List Ex} {w:Int} {r:List Ex} (h:qcv a b l=0) (hw:1≤w) (hw':w≤4096) (hc:cutX (qde a b l) w=some r):qd3 a b l w=0∧qcl a b l w=r:=by
 have hn:¬(qcv a b l≠0):=by simp [h]
 have hm:¬(w<1∨4096<w):=by omega
 unfold qd3 qcl cutE;rw [if_neg hn,if_neg hn,if_neg hm,if_neg hm,hc];exact ⟨rfl,rfl⟩
theorem quh {a b:Int} {l:List Ex} {w:Int} (h:qcv a b l=0) (hw:1≤w) (hw':w≤4096) (hc:cutX (qde a b l) w=none):qd3 a b l w=40∧qcl a b l w=[]:=by
 have hn:¬(qcv a b l≠0):=by simp [h]
 have hm:¬(w<1∨4096<w):=by omega
 unfold qd3 qcl cutE;rw [if_neg hn,if_neg hn,if_neg hm,if_neg hm,hc];exact ⟨rfl,rfl⟩
theorem qmh {p q:List Ex} {x y:Ex} {a b:Int} (h:qjl a b (p++x::q)) (e:y.1=x.1) (h1:1≤y.2) (h2:y.2≤x.2):qjl a b (p++[y]):=by
 obtain ⟨h3,h4⟩:=h;rw [List.pairwise_append] at h4;obtain ⟨h5,_,h6⟩:=h4;refine ⟨fun z hz=>?_, ?_⟩
 ·rcases List.mem_append.1 hz with hz | hz
  ·exact h3 z (List.mem_append_left _ hz)
  ·obtain rfl:z=y:=by simpa using hz
   have:=h3 x (by simp);omega
 ·rw [List.pairwise_append]
  refine ⟨h5,by simp,fun z hz u hu=>?_⟩
  obtain rfl:u=y:=by simpa using hu
  rw [e];exact h6 z hz x (List.mem_cons_self ..)
end Go.Proofs.YtnmbbpdhjkaidaaGreat
