/-
  Plain mathematics of a log's file: a new log; a log that is committed, and opened again.
-/
import Derived.Test.YtmeaiocohalphaaGreatDoorMathFs6
import Derived.Test.YtmeaiocohalphaaGreatDoorMathSl
import Derived.Test.YtmeaiocohalphaaGreatDoorFsFn6
namespace Go.Proofs.YtmeaiocohalphaaGreatDoor
open Go.RowKit
set_option linter.unusedVariables false
set_option linter.unusedSimpArgs false
theorem qaku {f g:Fsd} {but:List UInt8} (hf:okFs f) (hg:okFs g) (hd:g.2.2.1=f.2.2.1) (hb:∀k:Nat,34≤k→k<mny f.1→nowD g.1 k=nowD f.1 k):Like f g but:=by
 intro x hx _;have h1:=(qde hf hx).2.2.2.2
 have h2:qar g x.1=0:=by rw [qkd hd hf hg];exact h1
 refine ⟨h1,h2,ql4 h1 h2 (qiz hd x.1).1 ?_⟩;intro n hn
 have:=qdf h1 n hn
 exact hb _ (by omega) (by omega)
theorem qakv {f:Fsd} (h:okFs f):(qbv f.1 (f.2.1 % 2)).1≤f.2.1:=by
 obtain ⟨_,_,hg,hL⟩:=qay h;obtain ⟨_,_,_,hb⟩:=qgi hL;rw [qit hb hg];exact Nat.le_refl _
theorem qgr {f:Fsd} (hok:okFs f) (h:(qa7 f).2=0):∃x,qa7 f=((x,f.2.1+1,f.2.2.1,f.2.2.1),0)∧okFs (x,f.2.1+1,f.2.2.1,f.2.2.1)∧x.2.1=[]∧mny x=mny f.1∧f.2.1+1<4294967296∧Like f (x,f.2.1+1,f.2.2.1,f.2.2.1) []:=by
 rw [ql0] at h ⊢;unfold qacq at h ⊢;rw [if_neg (by rw [qdn hok];decide)] at h ⊢;obtain ⟨h1,h2,h3,h4⟩:=qay hok;have hlt:=(qld hok).2
 by_cases hg:f.2.1=4294967295
 ·rw [if_pos hg] at h;cases h
 ·rw [if_neg hg] at h ⊢
  cases ho:qa8 f.1 (qeh (f.2.1+1) (bytF f.2.2.1)) with
  | none=>rw [ho] at h;cases h
  | some x=>
   have hc:=hok.2.2.2.2.2;have hx:=qsm h1 h2 hok.2.2.1 hc (by omega) (qakv hok) ho;have hb:(bytF f.2.2.1).length≤2048:=(qbi hc).2.2.2.2;obtain ⟨o1,o2,o3,o4⟩:=qix h1 h2 (by omega) hb ho;refine ⟨x,rfl,hx,o3,o2,by omega,qaku hok hx rfl (fun k hk hk2=>?_)⟩
   show nowD x k=nowD f.1 k
   have e1:nowD x k=blk x.1 k:=by unfold nowD;rw [o3];rfl
   rw [e1,o4 k hk2,if_neg (by omega),if_neg (by rw [qca];omega),qdy h1 hk2]
/-! ### how many blocks can be given -/
theorem ql5 {p q:Int→Bool} {a:Int}:∀k:Nat,(∀i:Nat,i<k→p (a+i)=q (a+i))→cntB p a k=cntB q a k
 | 0,_=>rfl
 | k+1,h=>by
  simp only [cntB]
  rw [ql5 k (fun i hi=>h i (by omega)),h k (by omega)]
theorem qac6 {p:Int→Bool} {a:Int}:∀k:Nat,(∀i:Nat,i<k→p (a+i)=true)→cntB p a k=k
 | 0,_=>rfl
 | k+1,h=>by
  simp only [cntB]
  rw [qac6 k (fun i hi=>h i (by omega)),h k (by omega),if_pos rfl];omega
theorem qqf {f:Fsd} (h:okFs f):allX (qau f)=0∧qau f=qao f.2.2.1++qao f.2.2.2∧(∀x∈qau f,34≤x.1∧1≤x.2∧x.1+x.2≤mny f.1):=by
 have hc:=h.2.2.2.2.2;have hk:=qxt h
 have e1:qew f.2.2.1=qao f.2.2.1:=by unfold qew;rw [if_pos (qj1 hc)]
 have e2:qew f.2.2.2=qao f.2.2.2:=by unfold qew;rw [if_pos (qj1 hk)]
 have m1:=(qbi hc).2;have m2:=(qbi hk).2
 have hx:∀x∈qau f,34≤x.1∧1≤x.2∧x.1+x.2≤mny f.1:=by
  intro x hx;unfold qau at hx;rw [e1,e2] at hx
  rcases List.mem_append.1 hx with hx | hx
  ·exact qdq m1.2.2.1 x hx
  ·exact qdq m2.2.2.1 x hx
 have hmm:=((qb3 f.1).1 (qay h).1).2.2.1
 have l1:∀{fs:List Fl} {B:Int},mayF fs B→(qao fs).length≤2048:=by
  intro fs B hm
  have:=qlm fs 64 (fun g hg=>by have:=qt2 hm g hg;omega)
  have:=hm.1
  have hb:=hm.2.2.2
  -- the bytes bound the extents
  have hle:(qao fs).length≤(bytF fs).length:=by
   have:∀fs:List Fl,(qao fs).length≤(fs.flatMap qdg).length:=by
    intro fs
    induction fs with
    | nil=>simp [qao]
    | cons g fs ih=>
     have e:qao (g::fs)=g.2++qao fs:=rfl;rw [e,List.length_append,List.flatMap_cons,List.length_append]
     have h2:g.2.length≤(qdg g).length:=by
      unfold qdg;rw [List.length_append,List.length_append]
      have:∀l:List Ex,l.length≤(bytE l).length:=by
       intro l
       induction l with
       | nil=>simp [bytE]
       | cons x l ih=>
        have e:bytE (x::l)=bytX x++bytE l:=rfl;rw [e,List.length_append,List.length_cons]
        have:1≤(bytX x).length:=by
         unfold bytX;rw [List.length_append]
         have:=qwb x.1.toNat
         omega
        omega
      have:=this g.2
      omega
     omega
   have:=this fs
   unfold bytF;rw [List.length_append];omega
  omega
 refine ⟨?_, ?_,hx⟩
 ·refine qkl ?_ (fun x hx'=>by have:=hx x hx';omega)
  unfold qau;rw [e1,e2,List.length_append]
  have:=l1 m1
  have:=l1 m2
  omega
 ·unfold qau;rw [e1,e2]
theorem qakw {f:Fsd} (h:okFs f):qcc 34 (qa3 f) (qau f)=0:=by
 have h1:=(qay h).1;rw [qgk h1];unfold qcc;have hmm:=((qb3 f.1).1 h1).2.2.1
 have:=(qay h).2.1
 rw [if_neg (by omega),(qqf h).1]
theorem qxw {f:Fsd} (h:okFs f):qaj2 f=0∧qts f=cntB (fun n=>!inL (qau f) n) 34 (mny f.1 - 34):=by
 have h1:=(qay h).1;have h2:=(qay h).2.1;have hmm:=((qb3 f.1).1 h1).2.2.1;have hf:=qakw h;obtain ⟨r1,r2,r3⟩:=qel hf;have hm:=qgk h1;have hch:chkX (qcu 34 (qa3 f) (qau f))=0:=qaad r1 (by decide) (by rw [hm];omega) r3;have he:=qdn h;refine ⟨?_, ?_⟩
 ·unfold qaj2;rw [if_neg (by rw [he];decide),if_neg (by rw [hf];decide),hch]
 ·unfold qts
  rw [if_neg (by rw [he];decide),if_neg (by rw [hf];decide)];unfold manyR;rw [if_pos hch];rw [qho (a:=34) (k:=mny f.1 - 34) _ (fun x hx=>by have:=r1.1 x hx;rw [hm] at this;omega) (qo8 hch).2];apply ql5;intro i hi;rw [r2,hm];rw [decide_eq_true (by omega),decide_eq_true (by omega)]
  simp
theorem qac7 {p:Int→Bool} {a:Int} (k:Nat):cntB (fun n=>!p n) a k=k - cntB p a k:=by
 have h1:=qpd (p:=p) (q:=fun n=>!p n) a k (fun i _ hp=>by simp [hp]);have h2:=qac6 (p:=fun n=>p n || !p n) (a:=a) k (fun i _=>by simp);omega
theorem qag2 {f:Fsd} (h:okFs f):qa9 (qao f.2.2.1)=cntB (inL (qao f.2.2.1)) 34 (mny f.1 - 34):=by
 have hm:=qec h
 have:=(qay h).2.1
 exact qho _ (fun x hx=>by have:=qdq hm.2.2.1 x hx;omega) (extP_parts.1 hm.2.2.1).1
theorem ql6 {l:List Ex} (h:∀x∈l,0≤x.2):((qal l).length:Int)=qa9 l:=by
 induction l with
 | nil=>rfl
 | cons x l ih=>
  have:=ih (fun y hy=>h y (List.mem_cons_of_mem _ hy))
  have hx:=h x (List.mem_cons_self ..);have e1:qal (x::l)=blkX x x.2.toNat++qal l:=rfl;have e2:qa9 (x::l)=x.2+qa9 l:=rfl
  have e3:(blkX x x.2.toNat).length=x.2.toNat:=by simp [blkX]
  rw [e1,e2,List.length_append,e3];omega
def sumS (fs:List Fl):Int:=((fs.map fun g=>(qal g.2).length).sum:Nat)
theorem qag3 {fs:List Fl} (h:∀g∈fs,∀x∈g.2,0≤x.2):sumS fs=qa9 (qao fs):=by
 induction fs with
 | nil=>rfl
 | cons g fs ih=>
  have:=ih (fun k hk=>h k (List.mem_cons_of_mem _ hk))
  have hg:=ql6 (h g (List.mem_cons_self ..));have e1:qao (g::fs)=g.2++qao fs:=rfl
  have e2:qa9 (g.2++qao fs)=qa9 g.2+qa9 (qao fs):=by unfold qa9;rw [List.map_append,List.sum_append]
  rw [e1,e2,←this,←hg];unfold sumS;rw [List.map_cons,List.sum_cons];omega
theorem qag4 (fs:List Fl) (k:Nat) (h:k<fs.length):sumS (fs.take (k+1))=sumS (fs.take k)+(qal (fs[k]).2).length:=by
 unfold sumS;rw [List.take_succ_eq_append_getElem h,List.map_append,List.sum_append]
 simp
theorem qail {f:Fsd} (h:okFs f) (k:Nat):0≤sumS (f.2.2.1.take k)∧sumS (f.2.2.1.take k)≤4096:=by
 have hm:=qec h
 have hall:∀g∈f.2.2.1,∀x∈g.2,0≤x.2:=fun g hg x hx=>by have:=qdq hm.2.2.1 x ((ql3 hg).subset hx);omega
 have h1:=qag3 hall;have h2:=qag2 h;have h3:=qpc (inL (qao f.2.2.1)) 34 (mny f.1 - 34);have hmm:=((qb3 f.1).1 (qay h).1).2.2.1
 have e:sumS f.2.2.1=sumS (f.2.2.1.take k)+sumS (f.2.2.1.drop k):=by
  unfold sumS;rw [←Int.natCast_add,←List.sum_append,←List.map_append,List.take_append_drop]
 have a:0≤sumS (f.2.2.1.take k):=by unfold sumS;omega
 have b:0≤sumS (f.2.2.1.drop k):=by unfold sumS;omega
 omega
theorem qag5 {f g:Fsd} {but:List UInt8} (hf:okFs f) (hg:okFs g) (hd:g.1=f.1) (hs:∀x∈f.2.2.1,x∈g.2.2.1):Like f g but:=by
 intro x hx _;have h1:=qde hf hx;have h2:=qde hg (hs x hx);refine ⟨h1.2.2.2.2,h2.2.2.2.2,ql4 h1.2.2.2.2 h2.2.2.2.2 (by rw [h1.2.2.2.1,h2.2.2.2.1]) ?_⟩;intro n _;rw [hd]
theorem qxx {f:Fsd} {l:List Fl} {e:Int} (h:(qdk f l e).2≠0):(qdk f l e).1=fz:=by
 unfold qdk at *
 split
 ·rfl
 ·split
  ·rfl
  ·rename_i h0 h1
   rw [if_neg h0,if_neg h1] at h;exact absurd rfl h
theorem qzo {f:Fsd} {s t:List UInt8} (h:(qck f s t).2=0):okFs f∧qck f s t=((f.1,f.2.1,renF f.2.2.1 s t,f.2.2.2),0)∧okFs (f.1,f.2.1,renF f.2.2.1 s t,f.2.2.2)∧qar f s=0∧qar (f.1,f.2.1,renF f.2.2.1 s t,f.2.2.2) t=0∧qev f s=qev (f.1,f.2.1,renF f.2.2.1 s t,f.2.2.2) t:=by
 obtain ⟨h0,h1,h2⟩:=que h;have hok:=qlc h0
 have e:qcd f.2.2.1 s t=renF f.2.2.1 s t:=by unfold qcd;rw [if_pos h1]
 have ha:=qkv hok.2.2.2.2.2 h1;have hC:okFs (f.1,f.2.1,renF f.2.2.1 s t,f.2.2.2):=qsn hok ha.2.2.1;have hr:=(qec hok).2.1.2;have m1:(s,getF f.2.2.1 s)∈f.2.2.1:=qti hr (qnq ha.1).2.2;have m2:(t,getF f.2.2.1 s)∈renF f.2.2.1 s t:=ins_mem.2 (.inl rfl);have i1:=qde hok m1;have i2:=qde hC m2;refine ⟨hok,by unfold qck;rw [h2,e],hC,i1.2.2.2.2,i2.2.2.2.2, ?_⟩;have s1:qar f s=0:=i1.2.2.2.2;have s2:qar (f.1,f.2.1,renF f.2.2.1 s t,f.2.2.2) t=0:=i2.2.2.2.2;have b1:bloL f s=qal (getF f.2.2.1 s):=i1.2.2.2.1;have b2:bloL (f.1,f.2.1,renF f.2.2.1 s t,f.2.2.2) t=qal (getF f.2.2.1 s):=i2.2.2.2.1;unfold qev;rw [if_neg (by rw [s1];decide),if_neg (by rw [s2];decide),b1,b2]
theorem qag6 {a b:Int} {l:List Ex} {n:Int} (ha:0≤a) (h:qdm a b l n=0):qju a b (qb1 a b l n)∧qa9 (qb1 a b l n)=n∧qb1 a b l n≠[]∧∀k,inL (qb1 a b l n) k=true→inL l k=false:=by
 obtain ⟨f1,f2,r,f3,f4⟩:=qj2 h;obtain ⟨r1,r2,r3⟩:=qel f1
 rcases qko (qcu a b l) n f2 (fun x hx=>(r1.1 x hx).2.1) with ⟨k1,_⟩ | ⟨p,x,q,c,k1,k2,k3,k4,k5⟩
 ·rw [k1] at f3;cases f3
 rw [k2] at f3;cases f3;rw [f4];refine ⟨qnn (q:=q) (x:=x) (y:=(x.1,c)) (k1 ▸ r1) rfl k3 k4, ?_,by simp, ?_⟩
 ·unfold qa9 at *
  rw [List.map_append,List.sum_append]
  simpa using k5
 ·intro k hk
  have hin:inL (qcu a b l) k=true:=by
   rw [qo9] at hk ⊢;obtain ⟨y,hy,h1,h2⟩:=hk;rw [k1]
   rcases List.mem_append.1 hy with hy | hy
   ·exact ⟨y,List.mem_append_left _ hy,h1,h2⟩
   ·obtain rfl:y=(x.1,c):=by simpa using hy
    exact ⟨x,by simp,h1,by simp only at h2;omega⟩
  rw [r2] at hin
  simp only [Bool.and_eq_true,Bool.not_eq_true'] at hin
  exact hin.2
theorem qi0 {f:Fsd} {s:List UInt8} {n:Int} (h:(qav f s n).2=0):okFs f∧qav f s n=((f.1,f.2.1,mkL f s n,f.2.2.2),0)∧okFs (f.1,f.2.1,mkL f s n,f.2.2.2)∧qar (f.1,f.2.1,mkL f s n,f.2.2.2) s=0∧qh0 (f.1,f.2.1,mkL f s n,f.2.2.2) s=n∧Like f (f.1,f.2.1,mkL f s n,f.2.2.2) []∧qaj2 (f.1,f.2.1,mkL f s n,f.2.2.2)=0∧qts (f.1,f.2.1,mkL f s n,f.2.2.2)=qts f - n∧1≤n∧n≤4096∧0≤qts f∧qts f≤4096:=by
 obtain ⟨h0,h1,h2⟩:=que h;have hok:=qlc h0;obtain ⟨m1,m2,m3,m4⟩:=qagx h1;have hd:=(qay hok).1;have hmm:=qgk hd;have h34:=(qay hok).2.1;have hm4:=((qb3 f.1).1 hd).2.2.1;obtain ⟨T,hT⟩:∃T,T=qb1 34 (qa3 f) (qau f) n:=⟨_,rfl⟩;rw [←hT] at m3 m4;have ht:=qag6 (by decide) m2;rw [←hT,hmm] at ht;rw [hmm] at m3;have ha:=qtk m3;have hA:okFs (f.1,f.2.1,insF f.2.2.1 (s,T),f.2.2.2):=qsn hok ha.2.1;have hin:(s,T)∈insF f.2.2.1 (s,T):=ins_mem.2 (.inl rfl);have hfi:=qde hA hin
 have hpos:∀x∈T,0≤x.2:=fun x hx=>by have:=ht.1.1 x hx;omega
 have hlen:=ql6 hpos;rw [ht.2.1] at hlen;rw [m4];refine ⟨hok,by unfold qav;rw [h2,m4],hA,hfi.2.2.2.2, ?_,qag5 hok hA rfl (fun x hx=>ins_mem.2 (.inr hx)), ?_⟩
 ·have hs:qar (f.1,f.2.1,insF f.2.2.1 (s,T),f.2.2.2) s=0:=hfi.2.2.2.2
  rw [(qqc hs).2.2];have hb:bloL (f.1,f.2.1,insF f.2.2.1 (s,T),f.2.2.2) s=qal T:=hfi.2.2.2.1
  rw [hb];exact hlen
 ·obtain ⟨c1,c2⟩:=qxw hA
  obtain ⟨d1,d2⟩:=qxw hok;have u1:=(qqf hA).2.1;have u2:=(qqf hok).2.1
  have hap:apX T=true:=by
   have hx:=(qgb m3).2.2.2.2.1;exact (qo8 (qac3 hx (List.sublist_append_right _ _))).2
  have hcT:=qho (a:=34) (k:=mny f.1 - 34) T (fun x hx=>by have:=ht.1.1 x hx;omega) hap;rw [ht.2.1] at hcT
  have hor:∀k,inL (qau (f.1,f.2.1,insF f.2.2.1 (s,T),f.2.2.2)) k=(inL (qau f) k || inL T k):=by
   intro k;rw [u1,u2]
   show inL (qao (insF f.2.2.1 (s,T))++qao f.2.2.2) k=_
   rw [Bool.eq_iff_iff]
   simp only [Bool.or_eq_true,qo9,List.mem_append]
   have hp:=qpf f.2.2.1 (s,T)
   constructor
   ·rintro ⟨x,hx | hx,h1,h2⟩
    ·rcases List.mem_append.1 (hp.mem_iff.1 hx) with hx | hx
     ·exact .inl ⟨x,.inl hx,h1,h2⟩
     ·exact .inr ⟨x,hx,h1,h2⟩
    ·exact .inl ⟨x,.inr hx,h1,h2⟩
   ·rintro (⟨x,hx | hx,h1,h2⟩ | ⟨x,hx,h1,h2⟩)
    ·exact ⟨x,.inl (hp.mem_iff.2 (List.mem_append_left _ hx)),h1,h2⟩
    ·exact ⟨x,.inr hx,h1,h2⟩
    ·exact ⟨x,.inl (hp.mem_iff.2 (List.mem_append_right _ hx)),h1,h2⟩
  have e1:=qpd (p:=inL (qau f)) (q:=inL T) 34 (mny f.1 - 34) (fun i _ hp=>by
   cases e:inL T (34+(i:Int)) with
   | false=>rfl
   | true=>rw [ht.2.2.2 _ e] at hp;cases hp)
  have e2:=qac7 (p:=inL (qau f)) (a:=34) (mny f.1 - 34);have e3:=qac7 (p:=fun k=>inL (qau f) k || inL T k) (a:=34) (mny f.1 - 34)
  have e4:qts (f.1,f.2.1,insF f.2.2.1 (s,T),f.2.2.2)=cntB (fun k=>!(inL (qau f) k || inL T k)) 34 (mny f.1 - 34):=by
   rw [c2];exact ql5 _ (fun i _=>by rw [hor])
  have hw:=(qj2 m2).2.1
  have hn:n≤4096:=by
   by_cases hx:n<1∨4096<n
   ·rw [(qhm (qj2 m2).1 hx).1] at m2;cases m2
   ·omega
  have b1:=qpc (fun k=>!inL (qau f) k) 34 (mny f.1 - 34);have b2:=qpc (inL (qau f)) 34 (mny f.1 - 34);refine ⟨c1, ?_,hw,hn, ?_, ?_⟩
  ·rw [e4,d2];omega
  ·rw [d2];omega
  ·rw [d2];omega
def genF (b:List UInt8):Nat:=un4 (b.take 4)
abbrev Op:=List UInt8 × Nat × Nat
theorem qsq {α:Type} (cur x:List α) (off n:Nat) (h:off+x.length≤n) (hn:n≤cur.length):(cur.take off++(x++cur.drop (off+x.length))).take n=(cur.take n).take off++(x++(cur.take n).drop (off+x.length)):=by
 have h1:(cur.take off).length=off:=by rw [List.length_take];omega
 rw [List.take_append,List.take_append,h1,List.take_of_length_le (l:=cur.take off) (by omega),List.take_of_length_le (l:=x) (by omega),List.take_take,Nat.min_eq_left (by omega),List.drop_take,Nat.sub_sub]
theorem qfv {P:Program} (w:World) {ops:Array Oper} {rest:List Oper} {o:Oper} {a:Act} {Q:Exit→Act→World→Prop} (hgd:o.guard=none) (d s:Operand) (dT:TypeId)
  (ho:o.op=.call {callee:=.builtin .copy,args:=#[d,s],argTypes:=#[dT,dT]}) (hu:P.underlying dT=some (.slice 5)) (hsz:(P.info? 5).map (·.size)=some 1)
  (base g n c off dLen dCap:Nat) (hd:a.eval d=.slice (some ⟨g,off,none⟩) dLen dCap) (v:Value) (l:List UInt8) (hs:a.eval s=v) (hrd:Rd w v l)
  (data:List UInt8) (hown:OwB w base (.slice (some ⟨g,0,none⟩) n c) data) (hfit:off+dLen=data.length)
  (h:∀w',w.grownBy w' (some g)→OwB w' base (.slice (some ⟨g,0,none⟩) n c) (splice data off (l.take dLen))→wpList P ops Q rest (a.put o.dst (goInt (l.take dLen).length)) w'):
  wpList P ops Q (o::rest) a w:=by
 obtain ⟨sa,sc,rfl⟩:=hrd.form
 by_cases hpos:l=[]
 ·subst hpos
  refine wpList_copy_nothing hgd d s dT dT ho 5 hu hsz _ _ _ _ _ _ hd hs (Nat.min_eq_left (Nat.zero_le _)) ?_
  have hh:=h w (World.grownBy.refl _ _)
  have e0:(([]:List UInt8).take dLen).length=0:=by simp
  rw [e0] at hh
  refine hh ?_
  have e:splice data off (([]:List UInt8).take dLen)=data:=by simp [splice]
  rw [e];exact hown
 ·rcases hrd with ⟨e,_⟩ | ⟨b,of,c',e,hc,hm,hcell⟩
  ·exact absurd e hpos
  ·cases e
   have hlt:(l.take dLen).length=min dLen l.length:=List.length_take
   have hlen:(u8v (l.take dLen)).length=min dLen l.length:=by simp [u8v]
   obtain ⟨hx,h' | ⟨g',cap',cur,e,h1,h2,h3,h4,h5,h6⟩⟩:=hown
   ·cases h'.1
   ·cases e
    have htk:cur.toList.take data.length=u8v data:=by rw [←h6,Nat.mul_one]
    have hcs:data.length≤cur.size:=by rw [h5];omega
    refine wpList_copy_own hgd d s dT dT ho 5 hu hsz g off _ dCap ⟨b,of,none⟩ l.length sc hd hs cur _ h2 (u8v (l.take dLen)) (by rw [hlen];exact Nat.min_comm _ _) ?_ (by rw [hlen];omega) (qc8 _) ?_
    ·intro j u hj
     obtain ⟨hj',rfl⟩:=qcs (l.take dLen) j u hj;rw [Addr.add_lit];rw [List.length_take] at hj';rw [List.getElem_take];exact hcell j (by omega)
    ·rw [hlen,←hlt]
     refine h _ ⟨rfl,rfl,rfl,by simp [World.setRow],fun k _ hk=>setRow_other w g k _ (fun e=>hk (by rw [e]))⟩ ?_
     have hl2:(splice data off (l.take dLen)).length=data.length:=length_splice _ _ _ (by rw [hlt];omega);refine ⟨by simp [u8v],.inr ⟨g,c,_,by rw [hl2],h1,setRow_heap w g _ _ _ _ h2,by rw [hl2];exact h3,h4, ?_, ?_⟩⟩
     ·have hz:cur.toList.length=c*1:=by rw [Array.length_toList,h5]
      simp [hlen];omega
     ·rw [hl2,qgf,hlen,Nat.mul_one]
      show ((cur.toList.take off++(u8v (l.take dLen)++cur.toList.drop (off+(l.take dLen).length))).take data.length)=_
      have hx1:off+(u8v (l.take dLen)).length≤data.length:=by rw [hlen];omega
      have:=qsq cur.toList (u8v (l.take dLen)) off data.length hx1 (by rw [Array.length_toList];exact hcs)
      rw [htk,hlen] at this
      rw [hlt];exact this
def RdL (w:World) (v:Value) (ls:List (List UInt8)):Prop:=
 (ls=[]∧(v=.slice none 0 0∨∃a c,v=.slice (some a) 0 c))∨
 ∃b off c,v=.slice (some ⟨b,off,none⟩) ls.length c∧ls.length≤c∧c≤maxLen∧∀j,(h:j<ls.length)→∃y z,w.cell? ⟨b,off+j,none⟩=some (.slice y (ls[j]).length z)∧Rd w (.slice y (ls[j]).length z) ls[j]
theorem RdL.at {w:World} {a:Option Addr} {n c:Nat} {l:List (List UInt8)} (h:RdL w (.slice a n c) l) (j:Nat) (hj:j<l.length):∃b off y z,a=some ⟨b,off,none⟩∧w.cell? ⟨b,off+j,none⟩=some (.slice y (l[j]).length z)∧Rd w (.slice y (l[j]).length z) l[j]:=by
 rcases h with ⟨rfl,_⟩ | ⟨b,off,c',e,_,_,hc⟩
 ·simp at hj
 ·cases e
  obtain ⟨y,z,h1,h2⟩:=hc j hj;exact ⟨b,off,y,z,rfl,h1,h2⟩
theorem OwBB.rdL {w:World} {base:Nat} {v:Value} {ls:List (List UInt8)} (h:OwBB w base v ls):RdL w v ls:=by
 obtain ⟨a,c,rfl⟩:=h.form;obtain ⟨ps,e,h1,h2⟩:=h;have h0:OwBB w base (.slice a ls.length c) ls:=⟨ps,e,h1,h2⟩
 rcases h1.2 with ⟨e,hn⟩ | ⟨g,cap,cur,e,_,hg,hn,hm,hsz,htake⟩
 ·have:ls=[]:=List.length_eq_zero_iff.1 hn
  subst this;cases e;exact .inl ⟨rfl,.inl rfl⟩
 ·cases e
  refine .inr ⟨g,0,c,rfl,hn,hm,fun j hj=>?_⟩;obtain ⟨g',y,z,e,hc,ho⟩:=h0.at j hj;cases e;exact ⟨y,z,by simpa using hc,ho.rd⟩
def qbb (f:Fsd) (s:List UInt8):List (List UInt8):=if qar f s≠0 then [] else (bloL f s).map fun n=>nowD f.1 n.toNat
def headW (g:Nat):List UInt8:=le4 g++List.replicate 124 0
def heldW (b:List UInt8):Prop:=genF b≠0∧b=headW (genF b)
instance (b:List UInt8):Decidable (heldW b):=inferInstanceAs (Decidable (_∧_))
abbrev Wl:=List UInt8 × Nat × Nat × Nat × Nat × Nat
def wz:Wl:=([],0,0,0,0,0)
def qcq (f:Fsd) (s:List UInt8) (at0:Int) (l:List (List UInt8)):Nat→Fsd × Int
 | 0=>(f,0)
 | k+1=>if (qcq f s at0 l k).2≠0 then qcq f s at0 l k else qcz (qcq f s at0 l k).1 s (at0+k) (l.getD k [])
def qie (f:Fsd) (s:List UInt8) (at0:Int) (l:List (List UInt8)):Fsd × Int:=qcq f s at0 l l.length
theorem qsr {f:Fsd} {s:List UInt8} {at0:Int} {l:List (List UInt8)} {k:Nat} (h:(qcq f s at0 l k).2≠0):∀j,qcq f s at0 l (k+j)=qcq f s at0 l k
 | 0=>rfl
 | j+1=>by
  have e:=qsr h j;rw [←Nat.add_assoc,qcq,e,if_pos h]
/-! ### blocks -/
theorem qke {f:Fsd} {s:List UInt8} (h:qar f s=0):qbb f s=(bloL f s).map fun n=>nowD f.1 n.toNat:=by
 unfold qbb;rw [if_neg (fun e=>e h)]
theorem qe7 {f:Fsd} {s:List UInt8} (h:qar f s=0):(qbb f s).length=(bloL f s).length:=by rw [qke h,List.length_map]
theorem qqg {f:Fsd} {s:List UInt8} (h:qar f s=0) {i:Nat} (hi:i<(qbb f s).length) (hi':i<(bloL f s).length):(qbb f s)[i]=nowD f.1 ((bloL f s)[i]).toNat:=by
 simp only [qke h,List.getElem_map]
theorem qgs {f:Fsd} {s:List UInt8}:∀b∈qbb f s,b.length=128:=by
 intro b hb
 by_cases h:qar f s=0
 ·rw [qke h,List.mem_map] at hb
  obtain ⟨n,hn,rfl⟩:=hb
  have:=qdf h n hn
  exact qug (qay (qqc h).1).1 (by omega)
 ·unfold qbb at hb;rw [if_pos h] at hb;cases hb
theorem qss (f:Fsd) (s:List UInt8):(qbb f s).length≤4096:=by
 by_cases h:qar f s=0
 ·rw [qe7 h]
  obtain ⟨hok,l,hl⟩:=qdz h;obtain ⟨k,hk,e⟩:=List.getElem_of_mem hl;have h1:=qag4 f.2.2.1 k hk;have h2:=qail hok k;have h3:=qail hok (k+1);rw [e] at h1;have e2:bloL f s=qal l:=(qde hok hl).2.2.2.1;rw [e2];have h1:sumS (List.take (k+1) f.2.2.1)=sumS (List.take k f.2.2.1)+(qal l).length:=h1;omega
 ·unfold qbb;rw [if_pos h];exact Nat.zero_le _
theorem qif {f:Fsd} {s:List UInt8} (h:qar f s=0):qh0 f s=(qbb f s).length:=by rw [(qqc h).2.2,qe7 h]
theorem qag7 {f:Fsd} {s:List UInt8} (h:qar f s=0) {i:Nat} (hi:i<(qbb f s).length):getE f s i=0∧getL f s i=(qbb f s)[i]:=by
 have hi':i<(bloL f s).length:=by rw [←qe7 h];exact hi
 obtain ⟨_,_,h1,h2⟩:=qso h hi';exact ⟨h1,by rw [h2,qqg h hi hi']⟩
def pW (f:Fsd) (s:List UInt8) (at0:Nat) (l:List (List UInt8)):List Pu:=(List.range l.length).map fun i=>((bloL f s).getD (at0+i) 0,l.getD i [])
theorem qaim (f:Fsd) (s:List UInt8) (at0:Nat) (l:List (List UInt8)):(pW f s at0 l).length=l.length:=by simp [pW]
theorem pW_get (f:Fsd) (s:List UInt8) (at0:Nat) (l:List (List UInt8)) (i:Nat) (hi:i<(pW f s at0 l).length):(pW f s at0 l)[i]=((bloL f s).getD (at0+i) 0,l.getD i []):=by simp [pW]
def acW (ps:List Pu):List Ac:=ps.map fun p=>(false,p)
theorem qac8 (ps:List Pu):(acW ps).length=ps.length:=by simp [acW]
def yW (f:Fsd) (ps:List Pu):Fsd:=(((f.1.1,f.1.2.1++ps,f.1.2.2++acW ps):Dk),f.2)
theorem qakx {f:Fsd} {s:List UInt8} {i:Nat} {b:List UInt8} (hok:okFs f) (hs:qar f s=0) (hi:i<(bloL f s).length) (hb:b.length=128) (hW:f.1.2.1.length<65536) (hA:f.1.2.2.length<65536):
  qcz f s i b=(yW f [((bloL f s)[i],b)],0)∧okFs (yW f [((bloL f s)[i],b)]):=by
 obtain ⟨h1,h2,_,_⟩:=qso hs hi;have hr:=qdf hs _ (List.getElem_mem hi)
 have hac:actE (mny f.1) (false,(bloL f s)[i],b)=0:=by
  unfold actE putE;rw [if_neg (by simp),if_neg (by show ¬((bloL f s)[i] <0∨_≤(bloL f s)[i]);omega),if_neg (by show ¬b.length≠128;rw [hb];simp)]
 have hone:oneD f.1 (false,(bloL f s)[i],b)=some (yW f [((bloL f s)[i],b)]).1:=by
  unfold oneD;rw [if_neg (by show ¬(65536≤f.1.2.2.length∨(false=false∧65536≤f.1.2.1.length));omega),if_neg (by simp)];rfl
 have hdo:doD f.1 [(false,(bloL f s)[i],b)] 1=((yW f [((bloL f s)[i],b)]).1,0):=by
  rw [do1 (qay hok).1 hac,hone]
 have e:qcz f s i b=(yW f [((bloL f s)[i],b)],0):=by
  rw [qac1,if_neg (by rw [qdn hok];simp),if_neg (by rw [h1];simp),h2,hdo]
  simp [yW]
 refine ⟨e, ?_⟩
 have:=(qqe (f:=f) (s:=s) (i:=i) (b:=b) (by rw [e])).1
 rw [e] at this;exact this
theorem yW_yW (f:Fsd) (a b:List Pu):yW (yW f a) b=yW f (a++b):=by simp [yW,acW]
theorem yW_nil (f:Fsd):yW f []=f:=by simp [yW,acW]
theorem qqh {f:Fsd} {s:List UInt8} {at0:Nat} {l:List (List UInt8)} (hok:okFs f) (hs:qar f s=0) (h128:∀b∈l,b.length=128) (hat:at0+l.length≤(bloL f s).length) (hW:f.1.2.1.length+l.length≤65536) (hA:f.1.2.2.length+l.length≤65536):
  ∀k,k≤l.length→qcq f s at0 l k=(yW f ((pW f s at0 l).take k),0)∧okFs (yW f ((pW f s at0 l).take k))
 | 0,_=>by rw [List.take_zero,yW_nil];exact ⟨rfl,hok⟩
 | k+1,hk=>by
  obtain ⟨h1,h2⟩:=qqh hok hs h128 hat hW hA k (by omega);have hpl:=qaim f s at0 l;have hd:(yW f ((pW f s at0 l).take k)).2.2.1=f.2.2.1:=rfl
  have hsy:qar (yW f ((pW f s at0 l).take k)) s=0:=by rw [qkd hd hok h2];exact hs
  have hby:bloL (yW f ((pW f s at0 l).take k)) s=bloL f s:=(qiz hd s).1
  have htk:((pW f s at0 l).take k).length=k:=by rw [List.length_take,hpl];omega
  have hi:at0+k<(bloL (yW f ((pW f s at0 l).take k)) s).length:=by rw [hby];omega
  have hb:(l.getD k []).length=128:=by
   have hk':k<l.length:=by omega
   rw [List.getD_eq_getElem?_getD,List.getElem?_eq_getElem hk'];exact h128 _ (List.getElem_mem hk')
  obtain ⟨p1,p2⟩:=qakx (b:=l.getD k []) h2 hsy hi hb (by show (f.1.2.1++_).length<65536;rw [List.length_append,htk];omega) (by show (f.1.2.2++acW _).length<65536;rw [List.length_append,qac8,htk];omega)
  have e:(pW f s at0 l).take (k+1)=(pW f s at0 l).take k++[((bloL (yW f ((pW f s at0 l).take k)) s)[at0+k],l.getD k [])]:=by
   rw [List.take_succ_eq_append_getElem (by omega),pW_get]
   congr 2
   have h9:at0+k<(bloL f s).length:=by omega
   refine Prod.ext ?_ rfl
   simp only [hby]
   rw [List.getD_eq_getElem?_getD,List.getElem?_eq_getElem h9];rfl
  rw [yW_yW,←e] at p1 p2;refine ⟨?_,p2⟩;rw [qcq,h1,if_neg (by simp)]
  have ei:(at0:Int)+(k:Nat)=((at0+k:Nat):Int):=by omega
  rw [ei];exact p1
theorem qaky {f:Fsd} {s:List UInt8} {i:Int} {b:List UInt8} (h:(qcz f s i b).2=0):
  ∃j:Nat,i=j∧j<(qbb f s).length∧qbb (qcz f s i b).1 s=(qbb f s).set j b∧okFs (qcz f s i b).1∧(qcz f s i b).1.2=f.2∧qar f s=0∧qar (qcz f s i b).1 s=0∧mny (qcz f s i b).1.1=mny f.1:=by
 obtain ⟨hok,d',e,ha,ho,hact⟩:=qac4 h;obtain ⟨hokF,_,_,hs,hsF,_⟩:=qqe h;rw [e] at hokF hsF ⊢;obtain ⟨_,j,rfl,hj,hN⟩:=qac5 hok ha;obtain ⟨hd,hm34,_,_⟩:=qay hok;obtain ⟨o1,o2,_⟩:=qdc hd hact ho;have hbl:bloL (d',f.2) s=bloL f s:=(qiz (f:=f) (g:=(d',f.2)) rfl s).1;have hlF:=qe7 hsF;have hl:=qe7 hs;obtain ⟨_,L,hL⟩:=qdz hs
 have hnd:(bloL f s).Nodup:=by rw [(qde hok hL).2.2.2.1];exact qoq hok hL
 refine ⟨j,rfl,by rw [hl];exact hj, ?_,hokF,rfl,hs,hsF,o2⟩;apply List.ext_getElem
 ·rw [List.length_set,hlF,hl,hbl]
 ·intro k h1 h2
  have hk:k<(bloL f s).length:=by rw [←hbl,←hlF];exact h1
  have hkf:k<(qbb f s).length:=by rw [hl];exact hk
  rw [qqg hsF h1 (by rw [hbl];exact hk),List.getElem_set]
  have eb:(bloL (d',f.2) s)[k]'(by rw [hbl];exact hk)=(bloL f s)[k]:=by simp only [hbl]
  rw [eb];have hr:=qdf hs _ (List.getElem_mem hk);obtain ⟨n,hn⟩:∃n:Nat,(bloL f s)[k]=n:=⟨((bloL f s)[k]).toNat,by omega⟩
  have hnt:((bloL f s)[k]).toNat=n:=by omega
  have hnm:n<mny f.1:=by omega
  have hw:=qe1 hd hact ho hnm;rw [qdy o1 (by omega),qdy hd hnm,hN] at hw;rw [hnt]
  show nowD d' n=_
  rw [hw]
  by_cases hjk:j=k
  ·subst hjk
   rw [if_pos hn.symm,if_pos rfl]
  ·rw [if_neg hjk,if_neg,qqg hs hkf hk,hnt]
   intro e9;exact hjk ((List.getElem_inj hnd).1 (e9.symm.trans hn.symm))
theorem qqi:∀(l m:List (List UInt8)),(∀b∈l,b.length=128)→(∀b∈m,b.length=128)→l.flatten=m.flatten→l=m
 | [],[],_,_,_=>rfl
 | [],c::m,_,hm,h=>by
  have:=congrArg List.length h
  have hc:=hm c (List.mem_cons_self ..)
  simp [hc] at this
  omega
 | b::l,[],hl,_,h=>by
  have:=congrArg List.length h
  have hc:=hl b (List.mem_cons_self ..)
  simp [hc] at this
 | b::l,c::m,hl,hm,h=>by
  have hb:=hl b (List.mem_cons_self ..);have hc:=hm c (List.mem_cons_self ..);rw [List.flatten_cons,List.flatten_cons] at h;obtain ⟨h1,h2⟩:=List.append_inj h (by rw [hb,hc]);rw [h1,qqi l m (fun x hx=>hl x (List.mem_cons_of_mem _ hx)) (fun x hx=>hm x (List.mem_cons_of_mem _ hx)) h2]
theorem qig {f:Fsd} {s:List UInt8} (h:qar f s=0):qev f s=(qbb f s).flatten:=by
 unfold qev;rw [if_neg (fun e=>e h),qke h,List.flatMap]
theorem qac9 {f g:Fsd} {s:List UInt8} (h1:qar f s=0) (h2:qar g s=0) (h:qev f s=qev g s):qbb g s=qbb f s:=by
 rw [qig h1,qig h2] at h;exact (qqi _ _ qgs qgs h).symm
theorem qih {f g:Fsd} {s:List UInt8} (h:Like f g []) (hs:qar f s=0):qar g s=0∧qbb g s=qbb f s:=by
 obtain ⟨hok,l,hl⟩:=qdz hs;obtain ⟨h1,h2,h3⟩:=h (s,l) hl (qag1 hok hl);exact ⟨h2,qac9 h1 h2 h3⟩
end Go.Proofs.YtmeaiocohalphaaGreatDoor
