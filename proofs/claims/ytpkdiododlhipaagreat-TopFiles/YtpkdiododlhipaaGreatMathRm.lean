/-
  Plain mathematics of extents: which may be, which are apart, their blocks, what is free, what is taken. No program is named here.
-/
import Derived.Test.YtpkdiododlhipaaGreatDCrash
import Derived.Test.YtpkdiododlhipaaGreatBase
import Derived.Test.YtpkdiododlhipaaGreatKit
namespace Go.Proofs.YtpkdiododlhipaaGreat
open Go.RowKit
set_option linter.all false
def qfa (d:Dk) (n:Int):List UInt8:=(qfd d n).1
def ones:List UInt8:=List.replicate 128 1
theorem qy5 {d:Dk} (K:List Bool) (h:okD d=true):okD (qc7 d.1 (kept d.2.1 K),[],[])=true∧(qc7 d.1 (kept d.2.1 K)).length=d.1.length:=by
 obtain ⟨hf,_,_⟩:=Fine.of_ok h
 have hp:∀p∈kept d.2.1 K,0≤p.1∧128*p.1.toNat+128≤d.1.length∧p.2.length=128:=fun p hp=>by
  have:=qcp (hf.2.2.2 p (qf2 _ _ _ hp))
  have:=hf.1
  omega
 have hl:(qc7 d.1 (kept d.2.1 K)).length=d.1.length:=qfk d.1 _ d.1 rfl hp;refine ⟨?_,hl⟩;obtain ⟨h1,h2,h3,_⟩:=(qbj d).1 h;rw [qbj]
 have hm:mny (qc7 d.1 (kept d.2.1 K),[],[])=mny d:=by unfold mny;rw [hl]
 rw [hm];exact ⟨by rw [hl];exact h1,h2,h3,by simp,by simp,by simp,by simp⟩
theorem qel {d:Dk} (h:okD d=true):chk d=0:=by unfold chk;rw [h];rfl
theorem qou {d:Dk} (h:chk d=0):okD d=true:=by
 rcases qdw d with ⟨h1,_⟩ | ⟨_,h2⟩
 ·exact h1
 ·rw [h2] at h;cases h
theorem qc8 {d d':Dk} {a:Ac} (h:okD d=true) (ha:actE (mny d) a=0) (he:oneD d a=some d'):okD d'=true∧mny d'=mny d∧d'.2.2=d.2.2++[a]:=by
 obtain ⟨hf,h1,h2⟩:=Fine.of_ok h;obtain ⟨hf',hd⟩:=hf.one ha he
 have hm:mny d'=mny d:=by have:=hf'.1;unfold mny at *;omega
 refine ⟨?_,hm,hd⟩;obtain ⟨g1,_,_,_,_,_,g7⟩:=(qbj d).1 h;rw [qbj,hm];refine ⟨by have:=hf'.1;omega,h1,h2,hf'.2.1,hf'.2.2.1,hf'.2.2.2,fun b hb=>?_⟩;rw [hd] at hb
 rcases List.mem_append.1 hb with h | h
 ·exact g7 b h
 ·rw [List.mem_singleton.1 h];exact ha
theorem qey:∀(l:List Ac) (d d':Dk),okD d=true→(∀a∈l,actE (mny d) a=0)→qas d l=some d'→okD d'=true∧mny d'=mny d∧d'.2.2=d.2.2++l
 | [],d,d',h,_,he=>by cases he;exact ⟨h,rfl,by simp⟩
 | a::l,d,d',h,ha,he=>by
  have e:qas d (a::l)=(match oneD d a with | none=>none | some x=>qas x l):=rfl;rw [e] at he
  cases e1:oneD d a with
  | none=>rw [e1] at he;cases he
  | some x=>
   rw [e1] at he;obtain ⟨h1,h2,h3⟩:=qc8 h (ha a (List.mem_cons_self ..)) e1;obtain ⟨k1,k2,k3⟩:=qey l x d' h1 (fun b hb=>by rw [h2];exact ha b (List.mem_cons_of_mem _ hb)) he;exact ⟨k1,k2.trans h2,by rw [k3,h3];simp⟩
theorem qaa8 {d:Dk} {l:List Ac} {m:Int} (h:(doD d l m).2=0):okD d=true∧(∀a∈l,actE (mny d) a=0)∧0≤m∧m≤l.length∧∃x,qas d (l.take m.toNat)=some x∧doD d l m=(x,0):=by
 unfold doD at *
 split at h
 ·rename_i h1;exact absurd h h1
 ·rename_i h1
  split at h
  ·rename_i h2;exact absurd h h2
  ·rename_i h2
   split at h
   ·cases h
   ·rename_i h3
    have hz:qd7 (mny d) l=0:=Classical.byContradiction fun e=>h2 e
    refine ⟨qou (Classical.byContradiction fun e=>h1 e),qgu _ _ hz,by omega,by omega, ?_⟩;rw [if_neg h1,if_neg h2,if_neg h3]
    cases hx:qas d (l.take m.toNat) with
    | none=>rw [hx] at h;cases h
    | some x=>exact ⟨x,rfl,by simp only⟩
theorem qvq {d:Dk} {l:List Ac} {m:Nat} {x:Dk} (h:okD d=true) (ha:∀a∈l,actE (mny d) a=0) (hm:m≤l.length) (hx:qas d (l.take m)=some x):doD d l m=(x,0):=by
 unfold doD;rw [if_neg (by rw [qel h];simp),if_neg (by rw [qgt _ _ ha];simp),if_neg (by omega),Int.toNat_natCast,hx]
theorem qdx {d:Dk} {n:Nat} (h:okD d=true) (hn:n<mny d):qfa d n=(qbw n d.2.1).getD (blk d.1 n):=by
 unfold qfa qfd;rw [if_neg (by rw [qel h];simp),if_neg (by omega)];rfl
theorem qf3 {d d':Dk} {a:Ac} {n:Nat} (h:okD d=true) (ha:actE (mny d) a=0) (hs:a.1=true) (he:oneD d a=some d') (hn:n<mny d):qfa d' n=qfa d n∧d'.2.1=[]:=by
 obtain ⟨h1,h2,_⟩:=qc8 h ha he;obtain ⟨hf,_,_⟩:=Fine.of_ok h;unfold oneD at he
 split at he
 ·cases he
 ·try rw [if_pos hs] at he
  cases he;refine ⟨?_,rfl⟩;rw [qdx h1 (by rw [h2];exact hn),qdx h hn]
  show blk (qc7 d.1 d.2.1) n=_
  rw [qek d.1 n d.2.1 d.1 rfl (fun p hp=>by
   have:=qcp (hf.2.2.2 p hp)
   have:=hf.1
   omega)]
theorem qgv {d d':Dk} {N:Int} {b:List UInt8} {n:Nat} (h:okD d=true) (ha:actE (mny d) (false,N,b)=0) (he:oneD d (false,N,b)=some d') (hn:n<mny d):qfa d' n=if (n:Int)=N then b else qfa d n:=by
 obtain ⟨h1,h2,_⟩:=qc8 h ha he;unfold oneD at he
 split at he
 ·cases he
 ·try rw [if_neg (by simp)] at he
  cases he;rw [qdx h1 (by rw [h2];exact hn),qdx h hn]
  show (qbw n (d.2.1++[(N,b)])).getD (blk d.1 n)=_
  rw [qlr]
  split<;>rfl
def le4 (n:Nat):List UInt8:=[UInt8.ofNat (n % 256),UInt8.ofNat (n / 256 % 256),UInt8.ofNat (n / 65536 % 256),UInt8.ofNat (n / 16777216 % 256)]
def un4:List UInt8→Nat
 | []=>0
 | b::l=>b.toNat+256*un4 l
theorem qb6 (n:Nat):(le4 n).length=4:=rfl
theorem qov:∀l:List UInt8,un4 l<256 ^ l.length
 | []=>by simp [un4]
 | b::l=>by
  have:=qov l
  have hb:=b.toNat_lt;rw [un4,List.length_cons,Nat.pow_succ];omega
theorem qsa (b:UInt8):∀l:List UInt8,un4 (l++[b])=un4 l+b.toNat*256 ^ l.length
 | []=>by simp [un4]
 | c::l=>by
  have e:un4 (c::l++[b])=c.toNat+256*un4 (l++[b]):=rfl;rw [e,qsa b l,un4,List.length_cons,Nat.pow_succ,Nat.mul_add,Nat.add_assoc]
  congr 2
  rw [Nat.mul_comm (256 ^ l.length) 256,←Nat.mul_assoc,←Nat.mul_assoc,Nat.mul_comm 256 b.toNat]
theorem qvr (n:Nat) (h:n<4294967296):un4 (le4 n)=n:=by
 simp only [un4,le4,UInt8.toNat_ofNat']
 omega
theorem qeb (m:Nat):UInt8.ofNat (m % 256)=UInt8.ofNat m:=UInt8.toNat_inj.1 (by simp [UInt8.toNat_ofNat'])
theorem qab7 (n k:Nat) (hk:k<4):(le4 n)[k]'(by rw [qb6];exact hk)=UInt8.ofNat (n / 2 ^ (8*k)):=by
 match k,hk with
 | 0,_=>simp [le4,qeb]
 | 1,_=>simp [le4,qeb]
 | 2,_=>simp [le4,qeb]
 | 3,_=>simp [le4,qeb]
theorem qy6 (l:List UInt8) (k:Nat) (hk:k<l.length):un4 (l.take (k+1))=un4 (l.take k)+(l[k]).toNat*256 ^ k:=by
 rw [List.take_succ_eq_append_getElem hk,qsa]
 congr 2
 rw [List.length_take,Nat.min_eq_left (by omega)]
def qaj (gen:Nat) (size:Int):List UInt8 × Int:=if gen=0∨size<0∨2048<size then ([],2) else (le4 gen++(le4 size.toNat++List.replicate 120 0),0)
def ofS (b:List UInt8):Nat × Nat × Int:=
 if b.length≠128 then (0,0,3)
 else if (qaj (un4 (b.take 4)) (un4 ((b.drop 4).take 4))).2≠0∨b≠(qaj (un4 (b.take 4)) (un4 ((b.drop 4).take 4))).1 then (0,0,8)
 else (un4 (b.take 4),un4 ((b.drop 4).take 4),0)
def qbs (d:Dk) (n:Nat):Nat × Nat:=if (ofS (blk d.1 n)).1 % 2=n then ((ofS (blk d.1 n)).1,(ofS (blk d.1 n)).2.1) else (0,0)
def qfb (a b:Nat × Nat):Nat × Nat:=if a.1<b.1 then b else a
def qgw (d:Dk):Nat × Nat:=qfb (qfb (0,0) (qbs d 0)) (qbs d 1)
def qaf (d:Dk):Nat × Nat × Int:=
 if chk d≠0 then (0,0,chk d) else if mny d≤34 then (0,0,70)
 else if (qgw d).1=0 then (0,0,70) else ((qgw d).1,(qgw d).2,0)
theorem qlv {gen:Nat} {size:Int} (h:(qaj gen size).2=0):(qaj gen size).1.length=128:=by
 unfold qaj at *
 split
 ·rename_i c;rw [if_pos c] at h;cases h
 ·simp [qb6]
theorem qow {gen:Nat} {size:Int} (h:(qaj gen size).2=0):gen≠0∧0≤size∧size≤2048∧(qaj gen size).1=le4 gen++(le4 size.toNat++List.replicate 120 0):=by
 unfold qaj at *
 split at h
 ·cases h
 ·rename_i c
  rw [if_neg c];exact ⟨by omega,by omega,by omega,rfl⟩
theorem qhb {gen:Nat} {size:Int} (h1:gen≠0) (h2:0≤size) (h3:size≤2048):qaj gen size=(le4 gen++(le4 size.toNat++List.replicate 120 0),0):=by
 unfold qaj;rw [if_neg (by omega)]
theorem qtq {gen:Nat} {size:Int} (h:(qaj gen size).2≠0):qaj gen size=([],2):=by
 unfold qaj at *
 split
 ·rfl
 ·rename_i c;rw [if_neg c] at h;exact absurd rfl h
theorem qvs {gen:Nat} {size:Int} (hg:gen<4294967296) (h:(qaj gen size).2=0):ofS (qaj gen size).1=(gen,size.toNat,0):=by
 obtain ⟨h1,h2,h3,h4⟩:=qow h;have hl:=qlv h
 have e1:un4 ((qaj gen size).1.take 4)=gen:=by
  rw [h4,List.take_append_of_le_length (by rw [qb6];omega),List.take_of_length_le (by rw [qb6];omega),qvr gen hg]
 have e2:un4 (((qaj gen size).1.drop 4).take 4)=size.toNat:=by
  rw [h4,show (4:Nat)=(le4 gen).length from rfl,List.drop_left,List.take_append_of_le_length (by rw [qb6,qb6];omega),List.take_of_length_le (by rw [qb6,qb6];omega),qvr _ (by omega)]
 unfold ofS;rw [e1,e2,if_neg (by omega)]
 have e3:qaj gen (size.toNat:Nat)=qaj gen size:=by rw [Int.toNat_of_nonneg h2]
 rw [e3,if_neg (by rw [h];simp)]
theorem ofS_ok {b:List UInt8} (h:(ofS b).2.2=0):qaj (ofS b).1 ((ofS b).2.1:Nat)=(b,0):=by
 unfold ofS at *
 split at h
 ·cases h
 ·rename_i c1
  split at h
  ·cases h
  ·rename_i c2
   rw [if_neg c1,if_neg c2]
   have h1:(qaj (un4 (b.take 4)) (un4 ((b.drop 4).take 4))).2=0:=by
    by_cases hx:(qaj (un4 (b.take 4)) (un4 ((b.drop 4).take 4))).2=0
    ·exact hx
    ·exact absurd (.inl hx) c2
   have h2:b=(qaj (un4 (b.take 4)) (un4 ((b.drop 4).take 4))).1:=by
    by_cases hx:b=(qaj (un4 (b.take 4)) (un4 ((b.drop 4).take 4))).1
    ·exact hx
    ·exact absurd (.inr hx) c2
   show qaj (un4 (b.take 4)) (un4 ((b.drop 4).take 4))=(b,0)
   exact Prod.ext h2.symm h1
theorem qab8 {b:List UInt8} (h:(ofS b).2.2≠0):(ofS b).1=0∧(ofS b).2.1=0:=by
 unfold ofS at *
 split
 ·exact ⟨rfl,rfl⟩
 ·rename_i c1
  rw [if_neg c1] at h
  split
  ·exact ⟨rfl,rfl⟩
  ·rename_i c2;rw [if_neg c2] at h;exact absurd rfl h
theorem qvt (b:List UInt8):(ofS b).1<4294967296∧(ofS b).2.1≤2048:=by
 by_cases h:(ofS b).2.2=0
 ·have:=ofS_ok h
  obtain ⟨h1,h2,h3,_⟩:=qow (by rw [this]:(qaj (ofS b).1 ((ofS b).2.1:Nat)).2=0);refine ⟨?_,by omega⟩;unfold ofS
  split
  ·show (0:Nat)<_;omega
  ·split
   ·show (0:Nat)<_;omega
   ·have:=qov (b.take 4)
    have hle:256 ^ (b.take 4).length≤256 ^ 4:=Nat.pow_le_pow_right (by decide) (by rw [List.length_take];omega);exact Nat.lt_of_lt_of_le this hle
 ·obtain ⟨h1,h2⟩:=qab8 h
  rw [h1,h2];exact ⟨by omega,by omega⟩
theorem qf4 {d:Dk} {gen was:Nat} (h:qaf d=(gen,was,0)):okD d=true∧34<mny d∧gen≠0∧qgw d=(gen,was):=by
 unfold qaf at h
 split at h
 ·rename_i c
  have:=congrArg (fun x=>x.2.2) h
  exact absurd this c
 ·rename_i c1
  split at h
  ·cases h
  ·split at h
   ·cases h
   ·rename_i c2 c3
    injection h with h1 h2
    injection h2 with h2 h3
    refine ⟨qou (by omega),by omega,by rw [←h1];exact c3, ?_⟩;exact Prod.ext h1 h2
theorem qtr {d:Dk} {gen was:Nat} (hok:okD d=true) (hm:34<mny d) (hg:gen≠0) (hb:qgw d=(gen,was)):qaf d=(gen,was,0):=by
 unfold qaf;rw [if_neg (by rw [qel hok];simp),if_neg (by omega),hb,if_neg hg]
theorem qox (d:Dk) (n:Nat):(qbs d n).1=0∨(qbs d n).1 % 2=n:=by
 unfold qbs
 split
 ·rename_i h;exact .inr h
 ·exact .inl rfl
theorem qoy (a b:Nat × Nat):qfb a b=a∨qfb a b=b:=by
 unfold qfb
 split
 ·exact .inr rfl
 ·exact .inl rfl
theorem qib {d:Dk} {gen was:Nat} (h:qgw d=(gen,was)) (hg:gen≠0):qbs d (gen % 2)=(gen,was):=by
 have p0:=qox d 0;have p1:=qox d 1;unfold qgw at h
 rcases qoy (qfb (0,0) (qbs d 0)) (qbs d 1) with e | e
 ·rw [e] at h
  rcases qoy (0,0) (qbs d 0) with e | e
  ·rw [e] at h
   exact absurd (congrArg Prod.fst h).symm hg
  ·rw [e] at h
   rw [h] at p0
   have:gen % 2=0:=by
    rcases p0 with p0 | p0
    ·exact absurd p0 hg
    ·exact p0
   rw [this];exact h
 ·rw [e] at h
  rw [h] at p1
  have:gen % 2=1:=by
   rcases p1 with p1 | p1
   ·exact absurd p1 hg
   ·exact p1
  rw [this];exact h
abbrev Ex:=Int × Int
def wfX (x:Ex):Prop:=-9223372036854775808≤x.1∧x.1≤9223372036854775807∧-9223372036854775808≤x.2∧x.2≤9223372036854775807
def mayX (x:Ex):Bool:=decide (0≤x.1) && decide (1≤x.2) && decide (x.1+x.2≤4096)
theorem qbt (x:Ex):mayX x=true↔0≤x.1∧1≤x.2∧x.1+x.2≤4096:=by simp [mayX,and_assoc]
def allX (l:List Ex):Int:=if 4096<l.length then 4 else if l.all mayX then 0 else 8
def inX (x:Ex) (n:Int):Bool:=decide (x.1≤n) && decide (n<x.1+x.2)
def inL (l:List Ex) (n:Int):Bool:=l.any fun x=>inX x n
def qgx (a b:Ex):Bool:=decide (a.1<b.1+b.2) && decide (b.1<a.1+a.2)
def apX:List Ex→Bool
 | []=>true
 | x::r=>r.all (fun y=>!qgx y x) && apX r
def chkX (l:List Ex):Int:=if allX l≠0 then allX l else if apX l then 0 else 8
def qa8 (l:List Ex):Int:=(l.map (·.2)).sum
def blkX (x:Ex) (k:Nat):List Int:=(List.range k).map fun (i:Nat)=>x.1+(i:Int)
def qal (l:List Ex):List Int:=l.flatMap fun x=>blkX x x.2.toNat
def qj4 (l:List Ex) (n:Int):List Ex:=
 match l.getLast? with
 | none=>[(n,1)]
 | some x=>if x.1+x.2=n then l.dropLast++[(x.1,x.2+1)] else l++[(n,1)]
def qc9 (u:Int→Bool) (a:Int):Nat→List Ex
 | 0=>[]
 | k+1=>if u (a+k) then qc9 u a k else qj4 (qc9 u a k) (a+k)
def qcc (a b:Int) (l:List Ex):Int:=if a<0∨b<a∨4096<b then 2 else allX l
def qcn (a b:Int) (l:List Ex):List Ex:=if qcc a b l=0 then qc9 (inL l) a (b - a).toNat else []
def cutX:List Ex→Int→Option (List Ex)
 | [],_=>none
 | x::r,w=>if w≤x.2 then some [(x.1,w)] else (cutX r (w - x.2)).map (x::·)
def cutE (l:List Ex) (w:Int):Int:=if (cutX l w).isSome then 0 else 40
def qdj (a b:Int) (l:List Ex) (w:Int):Int:=
 if qcc a b l≠0 then qcc a b l else if w<1∨4096<w then 2 else cutE (qcn a b l) w
def qce (a b:Int) (l:List Ex) (w:Int):List Ex:=
 if qcc a b l≠0 then [] else if w<1∨4096<w then [] else (cutX (qcn a b l) w).getD []
theorem qdy {l:List Ex} (h:allX l=0):l.length≤4096∧∀x∈l,0≤x.1∧1≤x.2∧x.1+x.2≤4096:=by
 unfold allX at h
 split at h
 ·cases h
 ·split at h
  ·rename_i h1 h2
   rw [List.all_eq_true] at h2;exact ⟨by omega,fun x hx=>(qbt x).1 (h2 x hx)⟩
  ·cases h
theorem qj5 {l:List Ex} (h:l.length≤4096) (h':∀x∈l,0≤x.1∧1≤x.2∧x.1+x.2≤4096):allX l=0:=by
 unfold allX;rw [if_neg (by omega),if_pos];rw [List.all_eq_true]
 exact fun x hx=>(qbt x).2 (h' x hx)
theorem qts (l:List Ex):(allX l=4∧4096<l.length)∨(allX l=8∧l.length≤4096∧∃x∈l,mayX x=false)∨(allX l=0∧l.length≤4096∧∀x∈l,mayX x=true):=by
 unfold allX
 by_cases h:4096<l.length
 ·exact .inl ⟨if_pos h,h⟩
 ·rw [if_neg h]
  cases h2:l.all mayX with
  | true=>exact .inr (.inr ⟨if_pos rfl,by omega,by rwa [List.all_eq_true] at h2⟩)
  | false=>
   refine .inr (.inl ⟨if_neg (by simp),by omega, ?_⟩);rw [List.all_eq_false] at h2;obtain ⟨x,hx,e⟩:=h2;exact ⟨x,hx,by simpa using e⟩
theorem qy7 {l:List Ex} {k:Nat} (hk:k<l.length) (hl:l.length≤4096) (h:mayX l[k]=false):allX l=8:=by
 rcases qts l with ⟨_,h1⟩ | ⟨h1,_⟩ | ⟨_,_,h1⟩
 ·omega
 ·exact h1
 ·rw [h1 _ (List.getElem_mem hk)] at h;cases h
theorem qvu {l:List Ex} (hl:l.length≤4096) (h:∀x∈l.take l.length,mayX x=true):allX l=0:=
 qj5 hl fun x hx=>(qbt x).1 (h x (by simpa using hx))
theorem qlw (a b:Ex):qgx a b=qgx b a:=by unfold qgx;rw [Bool.and_comm]
theorem qm1 {a b:Ex} (ha:1≤a.2) (hb:1≤b.2):qgx a b=true↔∃n,inX a n=true∧inX b n=true:=by
 simp only [qgx,inX,Bool.and_eq_true,decide_eq_true_eq]
 constructor
 ·intro h
  exact ⟨max a.1 b.1,⟨by omega,by omega⟩,by omega,by omega⟩
 ·rintro ⟨n,h1,h2⟩
  omega
theorem qlx (l m:List Ex):apX (l++m)=(apX l && apX m && m.all fun y=>l.all fun x=>!qgx y x):=by
 induction l with
 | nil=>simp [apX]
 | cons x r ih=>
  rw [List.cons_append,apX,ih,apX];rw [Bool.eq_iff_iff]
  simp only [List.all_append,Bool.and_eq_true,List.all_eq_true,List.all_cons,Bool.not_eq_true']
  constructor
  ·rintro ⟨⟨h1,h2⟩,⟨h3,h4⟩,h5⟩
   exact ⟨⟨⟨h1,h3⟩,h4⟩,fun y hy=>⟨h2 y hy,h5 y hy⟩⟩
  ·rintro ⟨⟨⟨h1,h3⟩,h4⟩,h5⟩
   exact ⟨⟨h1,fun y hy=>(h5 y hy).1⟩,⟨h3,h4⟩,fun y hy=>(h5 y hy).2⟩
theorem qjj (l:List Ex) (x:Ex):apX (l++[x])=(apX l && l.all fun y=>!qgx x y):=by
 rw [qlx];simp [apX]
theorem qb7 {α:Type} (l:List α) (k:Nat) (h:k<l.length):l.take (k+1)=l.take k++[l[k]]:=by
 rw [List.take_add_one,List.getElem?_eq_getElem h];rfl
theorem qtt {l:List Ex} {k:Nat} (hk:k≤l.length) (ha:allX l=0) (h:apX (l.take k)=false):chkX l=8:=by
 have:apX l=false:=by
  rw [←List.take_append_drop k l,qlx,h];simp
 unfold chkX
 rw [if_neg (by simp [ha]),this];rfl
theorem qy8 {l:List Ex} (ha:allX l≠0):chkX l=allX l:=by unfold chkX;rw [if_pos ha]
theorem qj6 {l:List Ex} (ha:allX l=0) (h:apX l=true):chkX l=0:=by
 unfold chkX;rw [if_neg (by simp [ha]),if_pos h]
theorem qm2 {l:List Ex} (h:chkX l=0):allX l=0∧apX l=true:=by
 unfold chkX at h
 split at h
 ·contradiction
 ·rename_i h1
  split at h
  ·rename_i h2;exact ⟨by simpa using h1,h2⟩
  ·cases h
theorem qf5 (l:List Ex) (x:Ex) (n:Int):inL (l++[x]) n=(inL l n || inX x n):=by simp [inL]
theorem qdz (l:List Ex) (n:Int):inL l n=true↔∃x∈l,x.1≤n∧n<x.1+x.2:=by simp [inL,inX]
theorem qic (l:List Ex) (x:Ex):qa8 (l++[x])=qa8 l+x.2:=by simp [qa8]
theorem qqq {l:List Ex} (h:∀x∈l,0≤x.1∧1≤x.2∧x.1+x.2≤4096):0≤qa8 l∧qa8 l≤4096*l.length:=by
 induction l with
 | nil=>simp [qa8]
 | cons x r ih=>
  have:=ih fun y hy=>h y (List.mem_cons_of_mem _ hy)
  have h0:=h x (List.mem_cons_self ..);have e:qa8 (x::r)=x.2+qa8 r:=rfl;rw [e,List.length_cons];omega
theorem qvv (x:Ex) (k:Nat):blkX x (k+1)=blkX x k++[x.1+(k:Int)]:=by simp [blkX,List.range_succ]
theorem qsb (x:Ex) (k:Nat):(blkX x k).length=k:=by simp [blkX]
theorem qoz (l:List Ex) (x:Ex):qal (l++[x])=qal l++blkX x x.2.toNat:=by simp [qal]
theorem qqr {l:List Ex} (h:∀x∈l,1≤x.2):((qal l).length:Int)=qa8 l:=by
 induction l with
 | nil=>rfl
 | cons x r ih=>
  have:=ih fun y hy=>h y (List.mem_cons_of_mem _ hy)
  have h0:=h x (List.mem_cons_self ..);have e:qa8 (x::r)=x.2+qa8 r:=rfl;have e2:qal (x::r)=blkX x x.2.toNat++qal r:=rfl;rw [e,e2,List.length_append,qsb];omega
/-! ### what is free -/
theorem qid (n:Int):qj4 [] n=[(n,1)]:=rfl
theorem qem (l:List Ex) (x:Ex) (n:Int):qj4 (l++[x]) n=if x.1+x.2=n then l++[(x.1,x.2+1)] else l++[x]++[(n,1)]:=by
 unfold qj4;simp
theorem qvw (l:List Ex) (n:Int):(qj4 l n).length≤l.length+1:=by
 rcases List.eq_nil_or_concat l with rfl | ⟨l',x,rfl⟩
 ·simp [qid]
 ·rw [List.concat_eq_append,qem];split<;>simp
theorem qj7 (u:Int→Bool) (a:Int):∀k,(qc9 u a k).length≤k
 | 0=>by simp [qc9]
 | k+1=>by
  have:=qj7 u a k
  unfold qc9
  split
  ·omega
  ·have:=qvw (qc9 u a k) (a+k);omega
def qjd (a b:Int) (l:List Ex):Prop:=(∀x∈l,a≤x.1∧1≤x.2∧x.1+x.2≤b)∧l.Pairwise fun x y=>x.1+x.2<y.1
theorem qtu {a b:Int} {l:List Ex} (h:qjd a b l) (hab:a≤b):qjd a (b+1) (qj4 l b):=by
 rcases List.eq_nil_or_concat l with rfl | ⟨l',x,rfl⟩
 ·rw [qid]
  refine ⟨fun x hx=>?_,by simp⟩
  obtain rfl:x=(b,1):=by simpa using hx
  simp;omega
 ·rw [List.concat_eq_append] at h ⊢
  obtain ⟨h1,h2⟩:=h;rw [List.pairwise_append] at h2;obtain ⟨h3, -,h4⟩:=h2;have hx:=h1 x (by simp);rw [qem]
  split
  ·rename_i e
   refine ⟨fun y hy=>?_, ?_⟩
   ·rcases List.mem_append.1 hy with hy | hy
    ·have:=h1 y (List.mem_append_left _ hy);omega
    ·obtain rfl:y=(x.1,x.2+1):=by simpa using hy
     simp;omega
   ·rw [List.pairwise_append]
    refine ⟨h3,by simp,fun y hy z hz=>?_⟩
    obtain rfl:z=(x.1,x.2+1):=by simpa using hz
    exact h4 y hy x (by simp)
  ·rename_i e
   refine ⟨fun y hy=>?_, ?_⟩
   ·rcases List.mem_append.1 hy with hy | hy
    ·have:=h1 y hy;omega
    ·obtain rfl:y=(b,1):=by simpa using hy
     simp;omega
   ·rw [List.pairwise_append]
    refine ⟨by rw [List.pairwise_append];exact ⟨h3,by simp,h4⟩,by simp,fun y hy z hz=>?_⟩
    obtain rfl:z=(b,1):=by simpa using hz
    show y.1+y.2<b
    rcases List.mem_append.1 hy with hy | hy
    ·have:=h4 y hy x (by simp)
     have:=h1 y (List.mem_append_left _ hy);omega
    ·obtain rfl:y=x:=by simpa using hy
     omega
theorem qy9 {a b:Int} {l:List Ex} (h:qjd a b l) (n:Int):inL (qj4 l b) n=(inL l n || decide (n=b)):=by
 rcases List.eq_nil_or_concat l with rfl | ⟨l',x,rfl⟩
 ·rw [qid,Bool.eq_iff_iff];simp [inL,inX];omega
 ·rw [List.concat_eq_append] at h ⊢
  have hx:=h.1 x (by simp);rw [qem]
  split
  ·rename_i e
   rw [qf5,qf5,Bool.or_assoc]
   congr 1
   rw [Bool.eq_iff_iff];simp [inX];omega
  ·rw [qf5]
   congr 1
   rw [Bool.eq_iff_iff];simp [inX];omega
theorem qtv {a b b':Int} {l:List Ex} (h:qjd a b l) (hb:b≤b'):qjd a b' l:=⟨fun x hx=>by have:=h.1 x hx;omega,h.2⟩
theorem qie (u:Int→Bool) (a:Int):∀k:Nat,qjd a (a+k) (qc9 u a k)∧∀n,inL (qc9 u a k) n=(decide (a≤n) && decide (n<a+k) && !u n)
 | 0=>by
  refine ⟨⟨by simp [qc9],by simp [qc9]⟩,fun n=>?_⟩
  rw [Bool.eq_iff_iff];simp [qc9,inL];omega
 | k+1=>by
  obtain ⟨h1,h2⟩:=qie u a k
  have e:a+((k+1:Nat):Int)=a+k+1:=by omega
  rw [e];unfold qc9
  split
  ·rename_i hu
   refine ⟨qtv h1 (by omega),fun n=>?_⟩;rw [h2,Bool.eq_iff_iff]
   simp only [Bool.and_eq_true,decide_eq_true_eq,Bool.not_eq_true']
   constructor
   ·rintro ⟨⟨q1,q2⟩,q3⟩;exact ⟨⟨q1,by omega⟩,q3⟩
   ·rintro ⟨⟨q1,q2⟩,q3⟩
    refine ⟨⟨q1, ?_⟩,q3⟩
    have:n≠a+k:=by rintro rfl;rw [hu] at q3;cases q3
    omega
  ·rename_i hu
   refine ⟨qtu h1 (by omega),fun n=>?_⟩;rw [qy9 h1,h2,Bool.eq_iff_iff]
   simp only [Bool.and_eq_true,decide_eq_true_eq,Bool.not_eq_true',Bool.or_eq_true]
   constructor
   ·rintro (⟨⟨q1,q2⟩,q3⟩ | rfl)
    ·exact ⟨⟨q1,by omega⟩,q3⟩
    ·exact ⟨⟨by omega,by omega⟩,by simpa using hu⟩
   ·rintro ⟨⟨q1,q2⟩,q3⟩
    by_cases e:n=a+k
    ·exact .inr e
    ·exact .inl ⟨⟨q1,by omega⟩,q3⟩
theorem qm3 {a b:Int} {l:List Ex} (h:qcc a b l=0):0≤a∧a≤b∧b≤4096∧allX l=0:=by
 unfold qcc at h
 split at h
 ·cases h
 ·rename_i h1
  exact ⟨by omega,by omega,by omega,h⟩
theorem qen {a b:Int} {l:List Ex} (h:qcc a b l=0):qjd a b (qcn a b l)∧(∀n,inL (qcn a b l) n=(decide (a≤n) && decide (n<b) && !inL l n))∧(qcn a b l).length≤4096:=by
 obtain ⟨h1,h2,h3,_⟩:=qm3 h
 have:=qie (inL l) a (b - a).toNat
 have e:a+((b - a).toNat:Int)=b:=by omega
 rw [e] at this;unfold qcn;rw [if_pos h];exact ⟨this.1,this.2,by have:=qj7 (inL l) a (b - a).toNat;omega⟩
theorem qvx {a b:Int} {l:List Ex} (h:qjd a b l) (ha:0≤a) (hb:b≤4096) (hl:l.length≤4096):chkX l=0:=by
 refine qj6 (qj5 hl fun x hx=>by have:=h.1 x hx;omega) ?_
 obtain ⟨h0,h1⟩:=h;clear hl
 induction l with
 | nil=>rfl
 | cons x r ih=>
  rw [List.pairwise_cons] at h1;rw [apX,ih (fun y hy=>h0 y (List.mem_cons_of_mem _ hy)) h1.2,Bool.and_true,List.all_eq_true];intro y hy
  have:=h1.1 y hy
  simp [qgx];omega
/-! ### what is taken -/
theorem qj8:∀(l:List Ex) (w:Int),1≤w→(∀x∈l,1≤x.2)→
  (cutX l w=none∧qa8 l<w)∨∃p x q c,l=p++x::q∧cutX l w=some (p++[(x.1,c)])∧1≤c∧c≤x.2∧qa8 p+c=w
 | [],w,hw,_=>.inl ⟨rfl,by simp [qa8];omega⟩
 | x::r,w,hw,h=>by
  have hx:=h x (List.mem_cons_self ..);have e:qa8 (x::r)=x.2+qa8 r:=rfl;unfold cutX
  split
  ·rename_i h1
   exact .inr ⟨[],x,r,w,rfl,rfl,hw,h1,by simp [qa8]⟩
  ·rename_i h1
   rcases qj8 r (w - x.2) (by omega) (fun y hy=>h y (List.mem_cons_of_mem _ hy)) with ⟨h2,h3⟩ | ⟨p,y,q,c,rfl,h3,h4,h5,h6⟩
   ·exact .inl ⟨by rw [h2];rfl,by rw [e];omega⟩
   ·refine .inr ⟨x::p,y,q,c,rfl,by rw [h3];rfl,h4,h5, ?_⟩
    have e2:qa8 (x::p)=x.2+qa8 p:=rfl
    rw [e2];omega
theorem qqs:∀(l:List Ex) (w:Int) (k:Nat),k≤l.length→qa8 (l.take k)<w→(∀x∈l,1≤x.2)→cutX l w=(cutX (l.drop k) (w - qa8 (l.take k))).map (l.take k++·)
 | l,w,0,_,_,_=>by simp [qa8]
 | [],w,k+1,h,_,_=>by simp at h
 | x::r,w,k+1,h,h1,h2=>by
  have e:qa8 ((x::r).take (k+1))=x.2+qa8 (r.take k):=rfl;rw [e] at h1 ⊢
  have h0:0≤qa8 (r.take k):=by
   have:∀(l:List Ex),(∀x∈l,1≤x.2)→0≤qa8 l:=by
    intro l
    induction l with
    | nil=>intro _;simp [qa8]
    | cons y l ih=>
     intro hh
     have:=ih fun z hz=>hh z (List.mem_cons_of_mem _ hz)
     have:=hh y (List.mem_cons_self ..)
     have e:qa8 (y::l)=y.2+qa8 l:=rfl;omega
   exact this _ fun y hy=>h2 y (List.mem_cons_of_mem _ (List.mem_of_mem_take hy))
  have ih:=qqs r (w - x.2) k (by simpa using h) (by omega) (fun y hy=>h2 y (List.mem_cons_of_mem _ hy));rw [cutX,if_neg (by omega),ih,List.drop_succ_cons,List.take_succ_cons];rw [show w - x.2 - qa8 (r.take k)=w - (x.2+qa8 (r.take k)) by omega,Option.map_map];rfl
theorem qo0 (x:Ex) (r:List Ex) (w:Int):cutX (x::r) w=if w≤x.2 then some [(x.1,w)] else (cutX r (w - x.2)).map (x::·):=rfl
theorem qvy {l:List Ex} {w:Int} {k:Nat} (hk:k<l.length) (h:qa8 (l.take k)<w) (h1:∀x∈l,1≤x.2) (h2:w - qa8 (l.take k)≤(l[k]).2):cutX l w=some (l.take k++[((l[k]).1,w - qa8 (l.take k))]):=by
 rw [qqs l w k (by omega) h h1,List.drop_eq_getElem_cons hk,qo0,if_pos h2];rfl
theorem qza {l:List Ex} {w:Int} (h:qa8 l<w) (h1:∀x∈l,1≤x.2):cutX l w=none:=by
 have:=qqs l w l.length (Nat.le_refl _) (by simpa using h) h1
 rw [this];simp [cutX]
theorem qly {a b:Int} {l:List Ex} {w:Int} (h:qcc a b l≠0):qdj a b l w=qcc a b l∧qce a b l w=[]:=by
 unfold qdj qce;rw [if_pos h,if_pos h];exact ⟨rfl,rfl⟩
theorem qhc {a b:Int} {l:List Ex} {w:Int} (h:qcc a b l=0) (hw:w<1∨4096<w):qdj a b l w=2∧qce a b l w=[]:=by
 have hn:¬(qcc a b l≠0):=by simp [h]
 unfold qdj qce;rw [if_neg hn,if_neg hn,if_pos hw,if_pos hw];exact ⟨rfl,rfl⟩
theorem qtw {a b:Int} {l:List Ex} {w:Int} {r:List Ex} (h:qcc a b l=0) (hw:1≤w) (hw':w≤4096) (hc:cutX (qcn a b l) w=some r):qdj a b l w=0∧qce a b l w=r:=by
 have hn:¬(qcc a b l≠0):=by simp [h]
 have hm:¬(w<1∨4096<w):=by omega
 unfold qdj qce cutE;rw [if_neg hn,if_neg hn,if_neg hm,if_neg hm,hc];exact ⟨rfl,rfl⟩
theorem qtx {a b:Int} {l:List Ex} {w:Int} (h:qcc a b l=0) (hw:1≤w) (hw':w≤4096) (hc:cutX (qcn a b l) w=none):qdj a b l w=40∧qce a b l w=[]:=by
 have hn:¬(qcc a b l≠0):=by simp [h]
 have hm:¬(w<1∨4096<w):=by omega
 unfold qdj qce cutE;rw [if_neg hn,if_neg hn,if_neg hm,if_neg hm,hc];exact ⟨rfl,rfl⟩
theorem qlz {p q:List Ex} {x y:Ex} {a b:Int} (h:qjd a b (p++x::q)) (e:y.1=x.1) (h1:1≤y.2) (h2:y.2≤x.2):qjd a b (p++[y]):=by
 obtain ⟨h3,h4⟩:=h;rw [List.pairwise_append] at h4;obtain ⟨h5,_,h6⟩:=h4;refine ⟨fun z hz=>?_, ?_⟩
 ·rcases List.mem_append.1 hz with hz | hz
  ·exact h3 z (List.mem_append_left _ hz)
  ·obtain rfl:z=y:=by simpa using hz
   have:=h3 x (by simp);omega
 ·rw [List.pairwise_append]
  refine ⟨h5,by simp,fun z hz u hu=>?_⟩
  obtain rfl:u=y:=by simpa using hu
  rw [e];exact h6 z hz x (List.mem_cons_self ..)
end Go.Proofs.YtpkdiododlhipaaGreat
