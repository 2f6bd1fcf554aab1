/-
  Plain mathematics of a disk that is opened again.
-/
import Derived.Test.YtpkdiododlhipaaGreatMathFs6
namespace Go.Proofs.YtpkdiododlhipaaGreat
open Go.RowKit
set_option linter.all false
theorem qadg {f g:Fsd} {but:List UInt8} (hf:okFs f) (hg:okFs g) (hd:g.2.2.1=f.2.2.1) (hb:∀k:Nat,34≤k→k<mny f.1→nowD g.1 k=nowD f.1 k):Like f g but:=by
 intro x hx _;have h1:=(qcl hf hx).2.2.2.2
 have h2:qbu g x.1=0:=by rw [qnw hd hf hg];exact h1
 refine ⟨h1,h2,qk3 h1 h2 (qnv hd x.1).1 ?_⟩;intro n hn
 have:=qcw h1 n hn
 exact hb _ (by omega) (by omega)
theorem qxv {f:Fsd} (h:okFs f):(qbs f.1 (f.2.1 % 2)).1≤f.2.1:=by
 obtain ⟨_,_,hg,hL⟩:=qam h;obtain ⟨_,_,_,hb⟩:=qf4 hL;rw [qib hb hg];exact Nat.le_refl _
theorem quy {f:Fsd} (hok:okFs f) (h:(qbv f).2=0):∃x,qbv f=((x,f.2.1+1,f.2.2.1,f.2.2.1),0)∧okFs (x,f.2.1+1,f.2.2.1,f.2.2.1)∧x.2.1=[]∧mny x=mny f.1∧f.2.1+1<4294967296∧Like f (x,f.2.1+1,f.2.2.1,f.2.2.1) []:=by
 rw [qpw] at h ⊢;unfold qaai at h ⊢;rw [if_neg (by rw [qdl hok];decide)] at h ⊢;obtain ⟨h1,h2,h3,h4⟩:=qam hok;have hlt:=(qhm hok).2
 by_cases hg:f.2.1=4294967295
 ·rw [if_pos hg] at h;cases h
 ·rw [if_neg hg] at h ⊢
  cases ho:qas f.1 (qca (f.2.1+1) (bytF f.2.2.1)) with
  | none=>rw [ho] at h;cases h
  | some x=>
   have hc:=hok.2.2.2.2.2;have hx:=qkz h1 h2 hok.2.2.1 hc (by omega) (qxv hok) ho;have hb:(bytF f.2.2.1).length≤2048:=(qa3 hc).2.2.2.2;obtain ⟨o1,o2,o3,o4⟩:=qgi h1 h2 (by omega) hb ho;refine ⟨x,rfl,hx,o3,o2,by omega,qadg hok hx rfl (fun k hk hk2=>?_)⟩
   show nowD x k=nowD f.1 k
   have e1:nowD x k=blk x.1 k:=by unfold nowD;rw [o3];rfl
   rw [e1,o4 k hk2,if_neg (by omega),if_neg (by rw [qb0];omega),qil h1 hk2]
/-! ### how many blocks can be given -/
theorem qk4 {p q:Int→Bool} {a:Int}:∀k:Nat,(∀i:Nat,i<k→p (a+i)=q (a+i))→cntB p a k=cntB q a k
 | 0,_=>rfl
 | k+1,h=>by
  simp only [cntB]
  rw [qk4 k (fun i hi=>h i (by omega)),h k (by omega)]
theorem qxw {p:Int→Bool} {a:Int}:∀k:Nat,(∀i:Nat,i<k→p (a+i)=true)→cntB p a k=k
 | 0,_=>rfl
 | k+1,h=>by
  simp only [cntB]
  rw [qxw k (fun i hi=>h i (by omega)),h k (by omega),if_pos rfl];omega
theorem qny {f:Fsd} (h:okFs f):allX (qau f)=0∧qau f=qat f.2.2.1++qat f.2.2.2∧(∀x∈qau f,34≤x.1∧1≤x.2∧x.1+x.2≤mny f.1):=by
 have hc:=h.2.2.2.2.2;have hk:=qe7 h
 have e1:qef f.2.2.1=qat f.2.2.1:=by unfold qef;rw [if_pos (qhg hc)]
 have e2:qef f.2.2.2=qat f.2.2.2:=by unfold qef;rw [if_pos (qhg hk)]
 have m1:=(qa3 hc).2;have m2:=(qa3 hk).2
 have hx:∀x∈qau f,34≤x.1∧1≤x.2∧x.1+x.2≤mny f.1:=by
  intro x hx;unfold qau at hx;rw [e1,e2] at hx
  rcases List.mem_append.1 hx with hx | hx
  ·exact qdo m1.2.2.1 x hx
  ·exact qdo m2.2.2.1 x hx
 have hmm:=((qbj f.1).1 (qam h).1).2.2.1
 have l1:∀{fs:List Fl} {B:Int},mayF fs B→(qat fs).length≤2048:=by
  intro fs B hm
  have:=qkm fs 64 (fun g hg=>by have:=qre hm g hg;omega)
  have:=hm.1
  have hb:=hm.2.2.2
  -- the bytes bound the extents
  have hle:(qat fs).length≤(bytF fs).length:=by
   have:∀fs:List Fl,(qat fs).length≤(fs.flatMap qcx).length:=by
    intro fs
    induction fs with
    | nil=>simp [qat]
    | cons g fs ih=>
     have e:qat (g::fs)=g.2++qat fs:=rfl;rw [e,List.length_append,List.flatMap_cons,List.length_append]
     have h2:g.2.length≤(qcx g).length:=by
      unfold qcx;rw [List.length_append,List.length_append]
      have:∀l:List Ex,l.length≤(bytE l).length:=by
       intro l
       induction l with
       | nil=>simp [bytE]
       | cons x l ih=>
        have e:bytE (x::l)=bytX x++bytE l:=rfl;rw [e,List.length_append,List.length_cons]
        have:1≤(bytX x).length:=by
         unfold bytX;rw [List.length_append]
         have:=qu6 x.1.toNat
         omega
        omega
      have:=this g.2
      omega
     omega
   have:=this fs
   unfold bytF;rw [List.length_append];omega
  omega
 refine ⟨?_, ?_,hx⟩
 ·refine qj5 ?_ (fun x hx'=>by have:=hx x hx';omega)
  unfold qau;rw [e1,e2,List.length_append]
  have:=l1 m1
  have:=l1 m2
  omega
 ·unfold qau;rw [e1,e2]
theorem qadh {f:Fsd} (h:okFs f):qcc 34 (qaw f) (qau f)=0:=by
 have h1:=(qam h).1;rw [qhl h1];unfold qcc;have hmm:=((qbj f.1).1 h1).2.2.1
 have:=(qam h).2.1
 rw [if_neg (by omega),(qny h).1]
theorem qs8 {f:Fsd} (h:okFs f):qacl f=0∧qq4 f=cntB (fun n=>!inL (qau f) n) 34 (mny f.1 - 34):=by
 have h1:=(qam h).1;have h2:=(qam h).2.1;have hmm:=((qbj f.1).1 h1).2.2.1;have hf:=qadh h;obtain ⟨r1,r2,r3⟩:=qen hf;have hm:=qhl h1;have hch:chkX (qcn 34 (qaw f) (qau f))=0:=qvx r1 (by decide) (by rw [hm];omega) r3;have he:=qdl h;refine ⟨?_, ?_⟩
 ·unfold qacl;rw [if_neg (by rw [he];decide),if_neg (by rw [hf];decide),hch]
 ·unfold qq4
  rw [if_neg (by rw [he];decide),if_neg (by rw [hf];decide)];unfold manyR;rw [if_pos hch];rw [qka (a:=34) (k:=mny f.1 - 34) _ (fun x hx=>by have:=r1.1 x hx;rw [hm] at this;omega) (qm2 hch).2];apply qk4;intro i hi;rw [r2,hm];rw [decide_eq_true (by omega),decide_eq_true (by omega)]
  simp
theorem qxx {p:Int→Bool} {a:Int} (k:Nat):cntB (fun n=>!p n) a k=k - cntB p a k:=by
 have h1:=qm6 (p:=p) (q:=fun n=>!p n) a k (fun i _ hp=>by simp [hp]);have h2:=qxw (p:=fun n=>p n || !p n) (a:=a) k (fun i _=>by simp);omega
theorem qrr {l:List Ex} (h:∀x∈l,0≤x.2):((qal l).length:Int)=qa8 l:=by
 induction l with
 | nil=>rfl
 | cons x l ih=>
  have:=ih (fun y hy=>h y (List.mem_cons_of_mem _ hy))
  have hx:=h x (List.mem_cons_self ..);have e1:qal (x::l)=blkX x x.2.toNat++qal l:=rfl;have e2:qa8 (x::l)=x.2+qa8 l:=rfl
  have e3:(blkX x x.2.toNat).length=x.2.toNat:=by simp [blkX]
  rw [e1,e2,List.length_append,e3];omega
theorem qs9 {f g:Fsd} {but:List UInt8} (hf:okFs f) (hg:okFs g) (hd:g.1=f.1) (hs:∀x∈f.2.2.1,x∈g.2.2.1):Like f g but:=by
 intro x hx _;have h1:=qcl hf hx;have h2:=qcl hg (hs x hx);refine ⟨h1.2.2.2.2,h2.2.2.2.2,qk3 h1.2.2.2.2 h2.2.2.2.2 (by rw [h1.2.2.2.1,h2.2.2.2.1]) ?_⟩;intro n _;rw [hd]
theorem quz {f:Fsd} {s:List UInt8} (h:(qdd f s).2=0):okFs f∧qdd f s=((f.1,f.2.1,delF f.2.2.1 s,f.2.2.2),0)∧okFs (f.1,f.2.1,delF f.2.2.1 s,f.2.2.2)∧qbu (f.1,f.2.1,delF f.2.2.1 s,f.2.2.2) s=6∧Like (f.1,f.2.1,delF f.2.2.1 s,f.2.2.2) f []:=by
 obtain ⟨h0,h1,h2⟩:=qk0 h;have hok:=qi4 h0
 have e:qbm f.2.2.1 s=delF f.2.2.1 s:=by unfold qbm;rw [if_pos h1]
 have ha:=qq2 hok.2.2.2.2.2 h1;have hB:okFs (f.1,f.2.1,delF f.2.2.1 s,f.2.2.2):=qk1 hok ha.1;refine ⟨hok,by unfold qdd;rw [h2,e],hB, ?_,qs9 hB hok rfl (fun x hx=>(qe0 _ _).subset hx)⟩;unfold qbu;rw [if_neg (by rw [qdl hB];decide)];unfold bloE
 show (if qao (delF f.2.2.1 s) s≠0 then qao (delF f.2.2.1 s) s else _)=6
 rw [ha.2.1];rfl
theorem qu0 {f:Fsd} {s t:List UInt8} (h:(qde f s t).2=0):okFs f∧qde f s t=((f.1,f.2.1,renF f.2.2.1 s t,f.2.2.2),0)∧okFs (f.1,f.2.1,renF f.2.2.1 s t,f.2.2.2)∧qbu f s=0∧qbu (f.1,f.2.1,renF f.2.2.1 s t,f.2.2.2) t=0∧qh1 f s=qh1 (f.1,f.2.1,renF f.2.2.1 s t,f.2.2.2) t:=by
 obtain ⟨h0,h1,h2⟩:=qk0 h;have hok:=qi4 h0
 have e:qbn f.2.2.1 s t=renF f.2.2.1 s t:=by unfold qbn;rw [if_pos h1]
 have ha:=qq3 hok.2.2.2.2.2 h1;have hC:okFs (f.1,f.2.1,renF f.2.2.1 s t,f.2.2.2):=qk1 hok ha.2.2.1;have hr:=(qcv hok).2.1.2;have m1:(s,getF f.2.2.1 s)∈f.2.2.1:=qqy hr (qga ha.1).2.2;have m2:(t,getF f.2.2.1 s)∈renF f.2.2.1 s t:=ins_mem.2 (.inl rfl);have i1:=qcl hok m1;have i2:=qcl hC m2;refine ⟨hok,by unfold qde;rw [h2,e],hC,i1.2.2.2.2,i2.2.2.2.2, ?_⟩;have s1:qbu f s=0:=i1.2.2.2.2;have s2:qbu (f.1,f.2.1,renF f.2.2.1 s t,f.2.2.2) t=0:=i2.2.2.2.2;have b1:bloL f s=qal (getF f.2.2.1 s):=i1.2.2.2.1;have b2:bloL (f.1,f.2.1,renF f.2.2.1 s t,f.2.2.2) t=qal (getF f.2.2.1 s):=i2.2.2.2.1;unfold qh1;rw [if_neg (by rw [s1];decide),if_neg (by rw [s2];decide),b1,b2]
theorem qta {a b:Int} {l:List Ex} {n:Int} (ha:0≤a) (h:qdj a b l n=0):qjd a b (qce a b l n)∧qa8 (qce a b l n)=n∧qce a b l n≠[]∧∀k,inL (qce a b l n) k=true→inL l k=false:=by
 obtain ⟨f1,f2,r,f3,f4⟩:=qjl h;obtain ⟨r1,r2,r3⟩:=qen f1
 rcases qj8 (qcn a b l) n f2 (fun x hx=>(r1.1 x hx).2.1) with ⟨k1,_⟩ | ⟨p,x,q,c,k1,k2,k3,k4,k5⟩
 ·rw [k1] at f3;cases f3
 rw [k2] at f3;cases f3;rw [f4];refine ⟨qlz (q:=q) (x:=x) (y:=(x.1,c)) (k1 ▸ r1) rfl k3 k4, ?_,by simp, ?_⟩
 ·unfold qa8 at *
  rw [List.map_append,List.sum_append]
  simpa using k5
 ·intro k hk
  have hin:inL (qcn a b l) k=true:=by
   rw [qdz] at hk ⊢;obtain ⟨y,hy,h1,h2⟩:=hk;rw [k1]
   rcases List.mem_append.1 hy with hy | hy
   ·exact ⟨y,List.mem_append_left _ hy,h1,h2⟩
   ·obtain rfl:y=(x.1,c):=by simpa using hy
    exact ⟨x,by simp,h1,by simp only at h2;omega⟩
  rw [r2] at hin
  simp only [Bool.and_eq_true,Bool.not_eq_true'] at hin
  exact hin.2
theorem qu1 {f:Fsd} {s:List UInt8} {n:Int} (h:(qdc f s n).2=0):okFs f∧qdc f s n=((f.1,f.2.1,mkL f s n,f.2.2.2),0)∧okFs (f.1,f.2.1,mkL f s n,f.2.2.2)∧qbu (f.1,f.2.1,mkL f s n,f.2.2.2) s=0∧qo8 (f.1,f.2.1,mkL f s n,f.2.2.2) s=n∧Like f (f.1,f.2.1,mkL f s n,f.2.2.2) []∧qacl (f.1,f.2.1,mkL f s n,f.2.2.2)=0∧qq4 (f.1,f.2.1,mkL f s n,f.2.2.2)=qq4 f - n∧1≤n∧n≤4096∧0≤qq4 f∧qq4 f≤4096:=by
 obtain ⟨h0,h1,h2⟩:=qk0 h;have hok:=qi4 h0;obtain ⟨m1,m2,m3,m4⟩:=mk_ok h1;have hd:=(qam hok).1;have hmm:=qhl hd;have h34:=(qam hok).2.1;have hm4:=((qbj f.1).1 hd).2.2.1;obtain ⟨T,hT⟩:∃T,T=qce 34 (qaw f) (qau f) n:=⟨_,rfl⟩;rw [←hT] at m3 m4;have ht:=qta (by decide) m2;rw [←hT,hmm] at ht;rw [hmm] at m3;have ha:=qq1 m3;have hA:okFs (f.1,f.2.1,insF f.2.2.1 (s,T),f.2.2.2):=qk1 hok ha.2.1;have hin:(s,T)∈insF f.2.2.1 (s,T):=ins_mem.2 (.inl rfl);have hfi:=qcl hA hin
 have hpos:∀x∈T,0≤x.2:=fun x hx=>by have:=ht.1.1 x hx;omega
 have hlen:=qrr hpos;rw [ht.2.1] at hlen;rw [m4];refine ⟨hok,by unfold qdc;rw [h2,m4],hA,hfi.2.2.2.2, ?_,qs9 hok hA rfl (fun x hx=>ins_mem.2 (.inr hx)), ?_⟩
 ·have hs:qbu (f.1,f.2.1,insF f.2.2.1 (s,T),f.2.2.2) s=0:=hfi.2.2.2.2
  rw [(qnu hs).2.2];have hb:bloL (f.1,f.2.1,insF f.2.2.1 (s,T),f.2.2.2) s=qal T:=hfi.2.2.2.1
  rw [hb];exact hlen
 ·obtain ⟨c1,c2⟩:=qs8 hA
  obtain ⟨d1,d2⟩:=qs8 hok;have u1:=(qny hA).2.1;have u2:=(qny hok).2.1
  have hap:apX T=true:=by
   have hx:=(qf9 m3).2.2.2.2.1;exact (qm2 (qin hx (List.sublist_append_right _ _))).2
  have hcT:=qka (a:=34) (k:=mny f.1 - 34) T (fun x hx=>by have:=ht.1.1 x hx;omega) hap;rw [ht.2.1] at hcT
  have hor:∀k,inL (qau (f.1,f.2.1,insF f.2.2.1 (s,T),f.2.2.2)) k=(inL (qau f) k || inL T k):=by
   intro k;rw [u1,u2]
   show inL (qat (insF f.2.2.1 (s,T))++qat f.2.2.2) k=_
   rw [Bool.eq_iff_iff]
   simp only [Bool.or_eq_true,qdz,List.mem_append]
   have hp:=qnb f.2.2.1 (s,T)
   constructor
   ·rintro ⟨x,hx | hx,h1,h2⟩
    ·rcases List.mem_append.1 (hp.mem_iff.1 hx) with hx | hx
     ·exact .inl ⟨x,.inl hx,h1,h2⟩
     ·exact .inr ⟨x,hx,h1,h2⟩
    ·exact .inl ⟨x,.inr hx,h1,h2⟩
   ·rintro (⟨x,hx | hx,h1,h2⟩ | ⟨x,hx,h1,h2⟩)
    ·exact ⟨x,.inl (hp.mem_iff.2 (List.mem_append_left _ hx)),h1,h2⟩
    ·exact ⟨x,.inr hx,h1,h2⟩
    ·exact ⟨x,.inl (hp.mem_iff.2 (List.mem_append_right _ hx)),h1,h2⟩
  have e1:=qm6 (p:=inL (qau f)) (q:=inL T) 34 (mny f.1 - 34) (fun i _ hp=>by
   cases e:inL T (34+(i:Int)) with
   | false=>rfl
   | true=>rw [ht.2.2.2 _ e] at hp;cases hp)
  have e2:=qxx (p:=inL (qau f)) (a:=34) (mny f.1 - 34);have e3:=qxx (p:=fun k=>inL (qau f) k || inL T k) (a:=34) (mny f.1 - 34)
  have e4:qq4 (f.1,f.2.1,insF f.2.2.1 (s,T),f.2.2.2)=cntB (fun k=>!(inL (qau f) k || inL T k)) 34 (mny f.1 - 34):=by
   rw [c2];exact qk4 _ (fun i _=>by rw [hor])
  have hw:=(qjl m2).2.1
  have hn:n≤4096:=by
   by_cases hx:n<1∨4096<n
   ·rw [(qhc (qjl m2).1 hx).1] at m2;cases m2
   ·omega
  have b1:=qqx (fun k=>!inL (qau f) k) 34 (mny f.1 - 34);have b2:=qqx (inL (qau f)) 34 (mny f.1 - 34);refine ⟨c1, ?_,hw,hn, ?_, ?_⟩
  ·rw [e4,d2];omega
  ·rw [d2];omega
  ·rw [d2];omega
def qcm (d:Dk):Fsd × Int:=
 if (qaf d).2.2≠0 then (fz,(qaf d).2.2)
 else if d.2.1.any (fun p=>decide (p.1<34))=true then (fz,70)
 else if qck (genB d (qaf d).1 (qaf d).2.1) (mny d)≠0 then (fz,70)
 else (((d.1,d.2.1,[]),(qaf d).1,qeg (genB d (qaf d).1 (qaf d).2.1) (mny d),qeg (genB d (qaf d).1 (qaf d).2.1) (mny d)),0)
def qdp (f g:Fsd) (many:Int) (K:List Bool):Dk × Int:=
 if fsE f≠0∨fsE g≠0∨f.1.2.2≠[] then (dz,8)
 else if (doD f.1 g.1.2.2 (g.1.2.2.length:Nat)).2≠0∨¬((doD f.1 g.1.2.2 (g.1.2.2.length:Nat)).1.1=g.1.1∧(doD f.1 g.1.2.2 (g.1.2.2.length:Nat)).1.2.1=g.1.2.1) then (dz,8)
 else if many<0∨(g.1.2.2.length:Int)<many then (dz,2)
 else qd8 (doD f.1 g.1.2.2 many).1 K
abbrev qd4 (d:Dk) (K:List Bool):Dk:=(qc7 d.1 (kept d.2.1 K),[],[])
theorem qtb:∀p∈([]:List Pu),34≤p.1:=by intro p hp;cases hp
theorem qadi {f:Fsd} (h:okFs f):qcm f.1=(((f.1.1,f.1.2.1,[]),f.2.1,f.2.2.2,f.2.2.2),0):=by
 have h3:=(qam h).2.2.2;obtain ⟨c1,c2,c3,c4,c5,c6⟩:=h;unfold qcm
 have hn:¬f.1.2.1.any (fun p=>decide (p.1<34))=true:=by
  rw [List.any_eq_true];rintro ⟨p,hp,h4⟩
  have:=c3 p hp
  simp at h4
  omega
 rw [if_neg (by rw [c1];decide),if_neg hn,c2,if_neg (by rw [c4];decide),c5]
theorem qtc {s:List UInt8} {g:Nat} {D K:List Fl} (h:okFs ((s,[],[]),g,D,K)):qcm (s,[],[])=(((s,[],[]),g,K,K),0):=by
 have h2:=qadi h;dsimp only at h2;exact h2
theorem qnz {l:List Pu} {k:Int} (h:∀p∈l,p.1≠k):qbw k l=none:=by
 induction l with
 | nil=>rfl
 | cons p l ih=>
  unfold qbw;rw [ih (fun q hq=>h q (List.mem_cons_of_mem _ hq))]
  simp only
  rw [if_neg (h p (List.mem_cons_self ..))]
theorem qabh {d:Dk} (h:okD d=true):∀p∈d.2.1,0≤p.1∧128*p.1.toNat+128≤d.1.length∧p.2.length=128:=fun p hp=>by
 obtain ⟨hf,_,_⟩:=Fine.of_ok h
 have:=qcp (hf.2.2.2 p hp)
 have:=hf.1
 omega
theorem qp5 {d:Dk} (K:List Bool) (h:okD d=true) (n:Nat):blk (qc7 d.1 (kept d.2.1 K)) n=(qbw n (kept d.2.1 K)).getD (blk d.1 n):=
 qek d.1 n _ d.1 rfl (fun p hp=>qabh h p (qf2 _ _ _ hp))
theorem qp6 {S:Int→Prop} {d:Dk} (K:List Bool) (h:okD d=true) (hw:∀p∈d.2.1,¬S p.1) {k:Nat} (hk:S k):blk (qc7 d.1 (kept d.2.1 K)) k=blk d.1 k:=by
 rw [qp5 K h,qnz (fun p hp e=>hw p (qf2 _ _ _ hp) (e ▸ hk))];rfl
theorem qadj {S:Int→Prop} {d x:Dk} {a:Ac} (h:okD d=true) (hw:∀p∈d.2.1,¬S p.1) (ha:a.1=false→¬S a.2.1) (he:oneD d a=some x):(∀p∈x.2.1,¬S p.1)∧∀k:Nat,S k→blk x.1 k=blk d.1 k:=by
 unfold oneD at he
 split at he
 ·cases he
 ·split at he
  ·cases he
   refine ⟨(fun p hp=>by cases hp),fun k hk=>?_⟩
   show blk (qc7 d.1 d.2.1) k=_
   rw [qek d.1 k _ d.1 rfl (qabh h),qnz (fun p hp e=>hw p hp (e ▸ hk))];rfl
  ·rename_i h1 h2
   cases he;refine ⟨fun p hp=>?_,fun k hk=>rfl⟩
   rcases List.mem_append.1 hp with hp | hp
   ·exact hw p hp
   ·rw [List.mem_singleton.1 hp];exact ha (by simpa using h2)
theorem qgj {S:Int→Prop}:∀(l:List Ac) (d x:Dk),okD d=true→(∀a∈l,actE (mny d) a=0)→(∀p∈d.2.1,¬S p.1)→(∀a∈l,a.1=false→¬S a.2.1)→qas d l=some x→(∀p∈x.2.1,¬S p.1)∧∀k:Nat,S k→blk x.1 k=blk d.1 k
 | [],d,x,_,_,hw,_,he=>by cases he;exact ⟨hw,fun _ _=>rfl⟩
 | a::l,d,x,h,ha,hw,hs,he=>by
  have e:qas d (a::l)=(match oneD d a with | none=>none | some x=>qas x l):=rfl;rw [e] at he
  cases e1:oneD d a with
  | none=>rw [e1] at he;cases he
  | some y=>
   rw [e1] at he;obtain ⟨h1,h2,_⟩:=qc8 h (ha a (List.mem_cons_self ..)) e1;obtain ⟨k1,k2⟩:=qadj h hw (hs a (List.mem_cons_self ..)) e1;obtain ⟨j1,j2⟩:=qgj l y x h1 (fun b hb=>by rw [h2];exact ha b (List.mem_cons_of_mem _ hb)) k1 (fun b hb=>hs b (List.mem_cons_of_mem _ hb)) he;exact ⟨j1,fun k hk=>(j2 k hk).trans (k2 k hk)⟩
def qgk (g:Nat) (n:Int):Prop:=(0≤n∧n<2)∨(((2+g % 2*16:Nat):Int)≤n∧n<((2+g % 2*16+16:Nat):Int))
theorem qxy {x d:Dk} {g sz:Nat} (hx:x.1.length=d.1.length) (hlen:d.1.length=128*mny d) (hm:34<mny d) (hs:sz≤2048) (h:∀k:Nat,qgk g k→blk x.1 k=blk d.1 k):genB x g sz=genB d g sz:=by
 unfold genB;apply List.ext_getElem?;intro i;rw [List.getElem?_take,List.getElem?_take]
 by_cases hi:i<sz
 ·rw [if_pos hi,if_pos hi,List.getElem?_drop,List.getElem?_drop]
  have e1:128*(2+g % 2*16)+i=128*(2+g % 2*16+i / 128)+i % 128:=by omega
  rw [e1,←qky (by omega) (by omega),←qky (by omega) (by omega),h _ (by unfold qgk;omega)]
 ·rw [if_neg hi,if_neg hi]
theorem qxz {f:Fsd} {d:Dk} (h:okFs f) (hok:okD d=true) (hlen:d.1.length=f.1.1.length) (hb:∀k:Nat,qgk f.2.1 k→blk d.1 k=blk f.1.1 k) (hw:∀p∈d.2.1,34≤p.1):okFs (d,f.2.1,f.2.2.2,f.2.2.2):=by
 obtain ⟨h1,h2,h3,h4⟩:=qam h;obtain ⟨s1,s2⟩:=qhm h
 have hm:mny d=mny f.1:=by unfold mny;rw [hlen]
 have hL:qaf d=qaf f.1:=by
  have e1:qgw d=qgw f.1:=by unfold qgw;rw [qet (hb 0 (by unfold qgk;omega)),qet (hb 1 (by unfold qgk;omega))]
  unfold qaf;rw [e1,hm,qel hok,qel h1]
 have hG:genB d f.2.1 (qaf f.1).2.1=genB f.1 f.2.1 (qaf f.1).2.1:=qxy hlen (qim h1) h2 s1 hb;have hK:=qe7 h;obtain ⟨c1,c2,c3,c4,c5,c6⟩:=h;refine ⟨by show (qaf d).2.2=0;rw [hL];exact c1,by show (qaf d).1=_;rw [hL];exact c2,hw, ?_, ?_, ?_⟩
 ·show qck (genB d f.2.1 (qaf d).2.1) (mny d)=0
  rw [hL,hG,hm];exact c4
 ·show qeg (genB d f.2.1 (qaf d).2.1) (mny d)=f.2.2.2
  rw [hL,hG,hm];exact c5
 ·show chkF f.2.2.2 (mny d)=0
  rw [hm];exact hK
theorem qk5 {f:Fsd} {y:Dk} (K:List Bool) (h:okFs f) (hok:okD y=true) (hm:mny y=mny f.1) (hb:∀k:Nat,qgk f.2.1 k→blk y.1 k=blk f.1.1 k) (hw:∀p∈y.2.1,¬qgk f.2.1 p.1):
  okFs (qd4 y K,f.2.1,f.2.2.2,f.2.2.2)∧qcm (qd4 y K)=((qd4 y K,f.2.1,f.2.2.2,f.2.2.2),0):=by
 obtain ⟨c1,c2⟩:=qy5 K hok;have h1:okFs (qd4 y K,f.2.1,f.2.2.2,f.2.2.2):=qxz h c1 (by rw [c2,qim hok,hm,qim (qam h).1]) (fun k hk=>(qp6 (S:=qgk f.2.1) K hok hw hk).trans (hb k hk)) qtb;exact ⟨h1,qtc h1⟩
theorem qn0 {f:Fsd} (h:okFs f):∀p∈f.1.2.1,¬qgk f.2.1 p.1:=fun p hp hs=>by
 have:=h.2.2.1 p hp
 unfold qgk at hs;omega
/-! ### a commit,wherever power fails in it -/
def cntS (l:List Ac):Nat:=l.countP fun a=>!a.1 && decide (a.2.1<2)
theorem qk6 (a b:List Ac):cntS (a++b)=cntS a+cntS b:=List.countP_append
theorem qp7 {l:List Ac} (h:∀a∈l,a.1=false→2≤a.2.1):cntS l=0:=by
 unfold cntS;rw [List.countP_eq_zero];intro a ha
 have:=h a ha
 cases e:a.1 with
 | true=>simp
 | false=>simp [e];exact this e
theorem qk7:∀(bl:List (List UInt8)) (n:Int),∀a∈qdk n bl,a.1=false∧n≤a.2.1∧a.2.1<n+bl.length
 | [],n,a,ha=>by cases ha
 | b::bl,n,a,ha=>by
  rcases List.mem_cons.1 ha with rfl | ha
  ·exact ⟨rfl,Int.le_refl _,by rw [List.length_cons];show n<_;omega⟩
  ·have:=qk7 bl (n+1) a ha
   rw [List.length_cons];exact ⟨this.1,by omega,by omega⟩
def qd5 (g:Nat) (l:List UInt8):List Ac:=(true,0,[])::(qdk ((2+g % 2*16:Nat):Int) (qaz l)++[(true,0,[])])
def qjg (g:Nat) (l:List UInt8):List Ac:=[(false,((g % 2:Nat):Int),(qaj g (l.length:Nat)).1),(true,0,[])]
theorem qfv (g:Nat) (l:List UInt8):qca g l=qd5 g l++qjg g l:=by
 unfold qca qd5 qjg
 simp
theorem qx0 {g:Nat} {l:List UInt8} (hl:l.length≤2048):∀a∈qd5 (g+1) l,a.1=false→¬qgk g a.2.1∧2≤a.2.1:=by
 intro a ha h;unfold qd5 at ha
 rcases List.mem_cons.1 ha with rfl | ha
 ·cases h
 ·rcases List.mem_append.1 ha with ha | ha
  ·have:=qk7 _ _ a ha
   rw [qb0] at this;unfold qgk;omega
  ·rw [List.mem_singleton.1 ha] at h;cases h
theorem qh2 {d x:Dk} {l:List Ac} (h:qas d l=some x) (j:Nat):∃y,qas d (l.take j)=some y∧qas y (l.drop j)=some x:=by
 rw [←List.take_append_drop j l,qa5] at h;obtain ⟨y,h1,h2⟩:=Option.bind_eq_some_iff.1 h;exact ⟨y,h1,h2⟩
theorem qadk {f:Fsd} {d:List UInt8} (h:okFs f) (hw:f.1.2.1=[]) (hd:d=f.1.1):okFs ((d,[],[]),f.2.1,f.2.2.2,f.2.2.2):=by
 subst hd;have h1:=(qam h).1
 have hok:okD ((f.1.1,[],[]):Dk)=true:=by
  obtain ⟨p1,p2,p3,_⟩:=(qbj f.1).1 h1;exact (qbj _).2 ⟨p1,p2,p3,by simp,by simp,by simp,by simp⟩
 exact qxz h hok rfl (fun _ _=>rfl) qtb
theorem qaas {x:Dk} {g:Nat} {D:List Fl} {d:List UInt8} (h:okFs (x,g,D,D)) (hw:x.2.1=[]) (hd:d=x.1):okFs ((d,[],[]),g,D,D)∧qcm (d,[],[])=(((d,[],[]),g,D,D),0):=by
 have h1:okFs ((d,[],[]),g,D,D):=qadk (f:=(x,g,D,D)) h hw hd;exact ⟨h1,qtc h1⟩
def qaat (f:Fsd) (y:Dk) (K:List Bool):Prop:=okFs (qd4 y K,f.2.1,f.2.2.2,f.2.2.2)∧qcm (qd4 y K)=((qd4 y K,f.2.1,f.2.2.2,f.2.2.2),0)
def NewAt (f:Fsd) (D:List Fl) (y:Dk) (K:List Bool):Prop:=okFs (qd4 y K,f.2.1+1,D,D)∧qcm (qd4 y K)=((qd4 y K,f.2.1+1,D,D),0)
theorem qaau {p:Pu} (K:List Bool):(K.head?≠some true∧kept [p] K=[])∨(K.head? =some true∧kept [p] K=[p]):=by
 cases K with
 | nil=>exact .inl ⟨by simp,rfl⟩
 | cons b K=>
  cases b with
  | false=>exact .inl ⟨by simp,by cases K<;>rfl⟩
  | true=>exact .inr ⟨rfl,by cases K<;>rfl⟩
theorem qu2 {f:Fsd} {x:Dk} (hok:okFs f) (hg:f.2.1+1<4294967296) (h:qas f.1 (qca (f.2.1+1) (bytF f.2.2.1))=some x) (j:Nat) (K:List Bool):
  ∃y,qas f.1 ((qca (f.2.1+1) (bytF f.2.2.1)).take j)=some y∧okD y=true∧
   (j≤(qd5 (f.2.1+1) (bytF f.2.2.1)).length∧cntS ((qca (f.2.1+1) (bytF f.2.2.1)).take j)=0∧qaat f y K∨
    (qd5 (f.2.1+1) (bytF f.2.2.1)).length<j∧cntS ((qca (f.2.1+1) (bytF f.2.2.1)).take j)=1∧
    (j=(qd5 (f.2.1+1) (bytF f.2.2.1)).length+1∧K.head?≠some true∧qaat f y K∨¬(j=(qd5 (f.2.1+1) (bytF f.2.2.1)).length+1∧K.head?≠some true)∧NewAt f f.2.2.1 y K)):=by
 obtain ⟨h1,h2,h3,h4⟩:=qam hok;have hc:=hok.2.2.2.2.2;have hb:(bytF f.2.2.1).length≤2048:=(qa3 hc).2.2.2.2;have hx:=qkz h1 h2 hok.2.2.1 hc (by omega) (qxv hok) h;obtain ⟨o1,o2,o3, -⟩:=qgi h1 h2 (by omega) hb h;obtain ⟨y,hy,hr⟩:=qh2 h j;have hall:=qjr (k:=mny f.1) (g:=f.2.1+1) h2 (by omega) hb;obtain ⟨yk,ym,yd⟩:=qey _ _ _ h1 (fun a ha=>hall a (List.mem_of_mem_take ha)) hy;refine ⟨y,hy,yk, ?_⟩;have hoff:=qx0 (g:=f.2.1) hb;have hcA:cntS (qd5 (f.2.1+1) (bytF f.2.2.1))=0:=qp7 (fun a ha hs=>(hoff a ha hs).2)
 have hallA:∀a∈qd5 (f.2.1+1) (bytF f.2.2.1),actE (mny f.1) a=0:=fun a ha=>hall a (by rw [qfv];exact List.mem_append_left _ ha)
 by_cases hj:j≤(qd5 (f.2.1+1) (bytF f.2.2.1)).length
 ·refine .inl ⟨hj, ?_⟩
  have e:(qca (f.2.1+1) (bytF f.2.2.1)).take j=(qd5 (f.2.1+1) (bytF f.2.2.1)).take j:=by rw [qfv,List.take_append_of_le_length hj]
  rw [e] at hy ⊢;obtain ⟨w1,w2⟩:=qgj (S:=qgk f.2.1) _ f.1 y h1 (fun a ha=>hallA a (List.mem_of_mem_take ha)) (qn0 hok) (fun a ha hs=>(hoff a (List.mem_of_mem_take ha) hs).1) hy;exact ⟨qp7 (fun a ha hs=>(hoff a (List.mem_of_mem_take ha) hs).2),qk5 K hok yk ym w2 w1⟩
 ·refine .inr ⟨by omega, ?_⟩
  obtain ⟨z,hz,hzr⟩:=qh2 (by rw [←qfv];exact h:qas f.1 (qd5 (f.2.1+1) (bytF f.2.2.1)++qjg (f.2.1+1) (bytF f.2.2.1))=some x) (qd5 (f.2.1+1) (bytF f.2.2.1)).length;rw [List.take_left] at hz;rw [List.drop_left] at hzr;obtain ⟨w1,w2⟩:=qgj (S:=qgk f.2.1) _ f.1 z h1 hallA (qn0 hok) (fun a ha hs=>(hoff a ha hs).1) hz;obtain ⟨zk,zm,zd⟩:=qey _ _ _ h1 hallA hz
  have zw:z.2.1=[]:=by
   have e:qd5 (f.2.1+1) (bytF f.2.2.1)=((true,0,[])::qdk ((2+(f.2.1+1) % 2*16:Nat):Int) (qaz (bytF f.2.2.1)))++[(true,0,[])]:=rfl;rw [e,qa5] at hz;obtain ⟨v,hv,hv2⟩:=Option.bind_eq_some_iff.1 hz;rw [qch] at hv2;unfold oneD at hv2
   split at hv2
   ·cases hv2
   ·try rw [if_pos rfl] at hv2
    cases hv2;rfl
  have e2:(qca (f.2.1+1) (bytF f.2.2.1)).take j=qd5 (f.2.1+1) (bytF f.2.2.1)++(qjg (f.2.1+1) (bytF f.2.2.1)).take (j - (qd5 (f.2.1+1) (bytF f.2.2.1)).length):=by
   rw [qfv,List.take_append,List.take_of_length_le (by omega)]
  rw [e2,qk6,hcA,Nat.zero_add];rw [e2,qa5,hz] at hy;have hy:qas z ((qjg (f.2.1+1) (bytF f.2.2.1)).take (j - (qd5 (f.2.1+1) (bytF f.2.2.1)).length))=some y:=hy
  -- the superblock is written
  obtain ⟨v,hv,hvx⟩:∃v,oneD z (false,(((f.2.1+1) % 2:Nat):Int),(qaj (f.2.1+1) ((bytF f.2.2.1).length:Nat)).1)=some v∧oneD v (true,0,[])=some x:=by
   have e:qas z (qjg (f.2.1+1) (bytF f.2.2.1))=(match oneD z (false,(((f.2.1+1) % 2:Nat):Int),(qaj (f.2.1+1) ((bytF f.2.2.1).length:Nat)).1) with | none=>none | some x=>qas x [(true,0,[])]):=rfl;rw [e] at hzr
   cases e1:oneD z (false,(((f.2.1+1) % 2:Nat):Int),(qaj (f.2.1+1) ((bytF f.2.2.1).length:Nat)).1) with
   | none=>rw [e1] at hzr;cases hzr
   | some v=>rw [e1] at hzr;exact ⟨v,rfl,by rw [←qch];exact hzr⟩
  have hvi:v.1=z.1∧v.2.1=[((((f.2.1+1) % 2:Nat):Int),(qaj (f.2.1+1) ((bytF f.2.2.1).length:Nat)).1)]:=by
   unfold oneD at hv
   split at hv
   ·cases hv
   ·try rw [if_neg (by simp)] at hv
    cases hv;rw [zw];exact ⟨rfl,rfl⟩
  have hxi:x.1=qc7 v.1 v.2.1:=by
   unfold oneD at hvx
   split at hvx
   ·cases hvx
   ·try rw [if_pos rfl] at hvx
    cases hvx;rfl
  have hnew:∀d:List UInt8,d=x.1→okFs ((d,[],[]),f.2.1+1,f.2.2.1,f.2.2.1)∧qcm (d,[],[])=(((d,[],[]),f.2.1+1,f.2.2.1,f.2.2.1),0):=fun d hd=>by
   exact qaas hx o3 hd
  rcases (by omega:j=(qd5 (f.2.1+1) (bytF f.2.2.1)).length+1∨2≤j - (qd5 (f.2.1+1) (bytF f.2.2.1)).length) with h5 | h5
  ·have h5':j - (qd5 (f.2.1+1) (bytF f.2.2.1)).length=1:=by omega
   rw [h5'] at hy ⊢;have e3:(qjg (f.2.1+1) (bytF f.2.2.1)).take 1=[(false,(((f.2.1+1) % 2:Nat):Int),(qaj (f.2.1+1) ((bytF f.2.2.1).length:Nat)).1)]:=rfl;rw [e3] at hy ⊢;rw [qch,hv] at hy;cases hy;refine ⟨?_, ?_⟩
   ·unfold cntS
    rw [List.countP_singleton,if_pos (by simp;omega)]
   rcases qaau (p:=((((f.2.1+1) % 2:Nat):Int),(qaj (f.2.1+1) ((bytF f.2.2.1).length:Nat)).1)) K with ⟨hk1,hk⟩ | ⟨hk1,hk⟩
   ·refine .inl ⟨h5,hk1, ?_⟩
    have e4:qd4 y K=qd4 z []:=by
     unfold qd4;rw [hvi.2,hk,zw,hvi.1];rfl
    unfold qaat;rw [e4];exact qk5 [] hok zk zm w2 w1
   ·refine .inr ⟨fun hn=>hn.2 hk1, ?_⟩
    exact hnew _ (by rw [hxi,hvi.2,hk])
  ·have e3:(qjg (f.2.1+1) (bytF f.2.2.1)).take (j - (qd5 (f.2.1+1) (bytF f.2.2.1)).length)=qjg (f.2.1+1) (bytF f.2.2.1):=List.take_of_length_le (by unfold qjg;simpa using h5)
   rw [e3] at hy ⊢;rw [hzr] at hy;cases hy;refine ⟨?_,.inr ⟨fun hn=>by omega, ?_⟩⟩
   ·have e:qjg (f.2.1+1) (bytF f.2.2.1)=[(false,(((f.2.1+1) % 2:Nat):Int),(qaj (f.2.1+1) ((bytF f.2.2.1).length:Nat)).1)]++[(true,0,[])]:=rfl
    rw [e,qk6];unfold cntS;rw [List.countP_singleton,List.countP_singleton,if_pos (by simp;omega),if_neg (by simp)]
   ·exact hnew _ (by rw [o3];cases K<;>rfl)
end Go.Proofs.YtpkdiododlhipaaGreat
