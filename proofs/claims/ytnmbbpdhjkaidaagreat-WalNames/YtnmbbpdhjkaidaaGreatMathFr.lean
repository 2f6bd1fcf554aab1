/-
  Plain mathematics of frames: a record's blocks, the record that blocks begin with, the log of blocks.
-/
import Derived.Test.YtnmbbpdhjkaidaaGreatMathFs6
import Derived.Test.YtnmbbpdhjkaidaaGreatMathSl
namespace Go.Proofs.YtnmbbpdhjkaidaaGreat
open Go.RowKit
set_option linter.all false
theorem qrz {f g:Fsd} {but:List UInt8} (hf:okFs f) (hg:okFs g) (hd:g.2.2.1=f.2.2.1) (hb:∀k:Nat,34≤k→k<mny f.1→nowD g.1 k=nowD f.1 k):Like f g but:=by
 intro x hx _;have h1:=(qdr hf hx).2.2.2.2
 have h2:qaz g x.1=0:=by rw [qh7 hd hf hg];exact h1
 refine ⟨h1,h2,qlh h1 h2 (qhi hd x.1).1 ?_⟩;intro n hn
 have:=qcs h1 n hn
 exact hb _ (by omega) (by omega)
theorem qth {f:Fsd} (h:(qbg f).2=0):okFs f∧okFs (qbg f).1∧(qbg f).1.1.2.1=[]∧(qbg f).1.2=f.2∧Like f (qbg f).1 []∧Like (qbg f).1 f []:=by
 rw [qyf] at h ⊢
 by_cases h0:fsE f=0
 ·have hok:=qmp h0
  rw [if_neg (by rw [h0];decide)] at h ⊢
  by_cases h2:(doD f.1 [(true,0,[])] 1).2=0
  ·rw [if_neg (by rw [h2];decide)]
   obtain ⟨a1,a2,a3,a4,x,a5,a6⟩:=qac1 h2;rw [a6]
   have ho:oneD f.1 (true,0,[])=some x:=by
    have:qbe f.1 [(true,0,[])]=some x:=a5
    rw [qen] at this;exact this
   obtain ⟨o1,o2,_⟩:=qdf a1 (qbz _) ho;obtain ⟨_,hm,_,_⟩:=qaw hok
   have hs:=fun n hn=>qe3 (n:=n) a1 (qbz _) rfl ho hn
   have hw:x.2.1=[]:=(hs 0 (by omega)).2
   have hnow:∀k:Nat,k<mny f.1→nowD x k=nowD f.1 k:=fun k hk=>by
    have:=(hs k hk).1
    rw [qcq o1 (by omega),qcq a1 hk] at this;exact this
   have hlow:∀k,k<34→blk x.1 k=blk f.1.1 k:=fun k hk=>by
    have h1:nowD x k=blk x.1 k:=by unfold nowD;rw [hw];rfl
    have h2:nowD f.1 k=blk f.1.1 k:=by rw [←qcq a1 (by omega)];exact qp4 a1 hm hok.2.2.1 hk
    rw [←h1,←h2,hnow k (by omega)]
   have hokx:okFs (x,f.2.1,f.2.2.1,f.2.2.2):=qoc hok o1 (by rw [qiu o1,qiu a1,o2]) hlow (by rw [hw];intro p hp;cases hp) hok.2.2.2.2.2;have hokx:okFs (x,f.2):=hokx;exact ⟨hok,hokx,hw,rfl,qrz hok hokx rfl (fun k _ hk=>hnow k hk),qrz hokx hok rfl (fun k _ hk=>(hnow k (by rw [←o2];exact hk)).symm)⟩
  ·rw [if_pos h2] at h;exact absurd h h2
 ·rw [if_pos h0] at h;exact absurd h h0
theorem qafd {f:Fsd} (h:okFs f):(qb6 f.1 (f.2.1 % 2)).1≤f.2.1:=by
 obtain ⟨_,_,hg,hL⟩:=qaw h;obtain ⟨_,_,_,hb⟩:=qgp hL;rw [qim hb hg];exact Nat.le_refl _
theorem qvg {f:Fsd} (hok:okFs f) (h:(qc0 f).2=0):∃x,qc0 f=((x,f.2.1+1,f.2.2.1,f.2.2.1),0)∧okFs (x,f.2.1+1,f.2.2.1,f.2.2.1)∧x.2.1=[]∧mny x=mny f.1∧f.2.1+1<4294967296∧Like f (x,f.2.1+1,f.2.2.1,f.2.2.1) []:=by
 rw [qpv] at h ⊢;unfold qaby at h ⊢;rw [if_neg (by rw [qej hok];decide)] at h ⊢;obtain ⟨h1,h2,h3,h4⟩:=qaw hok;have hlt:=(qkv hok).2
 by_cases hg:f.2.1=4294967295
 ·rw [if_pos hg] at h;cases h
 ·rw [if_neg hg] at h ⊢
  cases ho:qbe f.1 (qez (f.2.1+1) (bytF f.2.2.1)) with
  | none=>rw [ho] at h;cases h
  | some x=>
   have hc:=hok.2.2.2.2.2;have hx:=qp5 h1 h2 hok.2.2.1 hc (by omega) (qafd hok) ho;have hb:(bytF f.2.2.1).length≤2048:=(qby hc).2.2.2.2;obtain ⟨o1,o2,o3,o4⟩:=qiv h1 h2 (by omega) hb ho;refine ⟨x,rfl,hx,o3,o2,by omega,qrz hok hx rfl (fun k hk hk2=>?_)⟩
   show nowD x k=nowD f.1 k
   have e1:nowD x k=blk x.1 k:=by unfold nowD;rw [o3];rfl
   rw [e1,o4 k hk2,if_neg (by omega),if_neg (by rw [qco];omega),qcq h1 hk2]
/-! ### how many blocks can be given -/
theorem qli {p q:Int→Bool} {a:Int}:∀k:Nat,(∀i:Nat,i<k→p (a+i)=q (a+i))→cntB p a k=cntB q a k
 | 0,_=>rfl
 | k+1,h=>by
  simp only [cntB]
  rw [qli k (fun i hi=>h i (by omega)),h k (by omega)]
theorem qyk {p:Int→Bool} {a:Int}:∀k:Nat,(∀i:Nat,i<k→p (a+i)=true)→cntB p a k=k
 | 0,_=>rfl
 | k+1,h=>by
  simp only [cntB]
  rw [qyk k (fun i hi=>h i (by omega)),h k (by omega),if_pos rfl];omega
theorem qof {f:Fsd} (h:okFs f):allX (qa3 f)=0∧qa3 f=qay f.2.2.1++qay f.2.2.2∧(∀x∈qa3 f,34≤x.1∧1≤x.2∧x.1+x.2≤mny f.1):=by
 have hc:=h.2.2.2.2.2;have hk:=qte h
 have e1:qfh f.2.2.1=qay f.2.2.1:=by unfold qfh;rw [if_pos (qjv hc)]
 have e2:qfh f.2.2.2=qay f.2.2.2:=by unfold qfh;rw [if_pos (qjv hk)]
 have m1:=(qby hc).2;have m2:=(qby hk).2
 have hx:∀x∈qa3 f,34≤x.1∧1≤x.2∧x.1+x.2≤mny f.1:=by
  intro x hx;unfold qa3 at hx;rw [e1,e2] at hx
  rcases List.mem_append.1 hx with hx | hx
  ·exact qd8 m1.2.2.1 x hx
  ·exact qd8 m2.2.2.1 x hx
 have hmm:=((qcg f.1).1 (qaw h).1).2.2.1
 have l1:∀{fs:List Fl} {B:Int},mayF fs B→(qay fs).length≤2048:=by
  intro fs B hm
  have:=qk4 fs 64 (fun g hg=>by have:=qxj hm g hg;omega)
  have:=hm.1
  have hb:=hm.2.2.2
  -- the bytes bound the extents
  have hle:(qay fs).length≤(bytF fs).length:=by
   have:∀fs:List Fl,(qay fs).length≤(fs.flatMap qdx).length:=by
    intro fs
    induction fs with
    | nil=>simp [qay]
    | cons g fs ih=>
     have e:qay (g::fs)=g.2++qay fs:=rfl;rw [e,List.length_append,List.flatMap_cons,List.length_append]
     have h2:g.2.length≤(qdx g).length:=by
      unfold qdx;rw [List.length_append,List.length_append]
      have:∀l:List Ex,l.length≤(bytE l).length:=by
       intro l
       induction l with
       | nil=>simp [bytE]
       | cons x l ih=>
        have e:bytE (x::l)=bytX x++bytE l:=rfl;rw [e,List.length_append,List.length_cons]
        have:1≤(bytX x).length:=by
         unfold bytX;rw [List.length_append]
         have:=qacz x.1.toNat
         omega
        omega
      have:=this g.2
      omega
     omega
   have:=this fs
   unfold bytF;rw [List.length_append];omega
  omega
 refine ⟨?_, ?_,hx⟩
 ·refine qko ?_ (fun x hx'=>by have:=hx x hx';omega)
  unfold qa3;rw [e1,e2,List.length_append]
  have:=l1 m1
  have:=l1 m2
  omega
 ·unfold qa3;rw [e1,e2]
theorem qafe {f:Fsd} (h:okFs f):qcv 34 (qa6 f) (qa3 f)=0:=by
 have h1:=(qaw h).1;rw [qgu h1];unfold qcv;have hmm:=((qcg f.1).1 h1).2.2.1
 have:=(qaw h).2.1
 rw [if_neg (by omega),(qof h).1]
theorem qti {f:Fsd} (h:okFs f):qaei f=0∧qrb f=cntB (fun n=>!inL (qa3 f) n) 34 (mny f.1 - 34):=by
 have h1:=(qaw h).1;have h2:=(qaw h).2.1;have hmm:=((qcg f.1).1 h1).2.2.1;have hf:=qafe h;obtain ⟨r1,r2,r3⟩:=qe5 hf;have hm:=qgu h1;have hch:chkX (qde 34 (qa6 f) (qa3 f))=0:=qwm r1 (by decide) (by rw [hm];omega) r3;have he:=qej h;refine ⟨?_, ?_⟩
 ·unfold qaei;rw [if_neg (by rw [he];decide),if_neg (by rw [hf];decide),hch]
 ·unfold qrb
  rw [if_neg (by rw [he];decide),if_neg (by rw [hf];decide)];unfold manyR;rw [if_pos hch];rw [qht (a:=34) (k:=mny f.1 - 34) _ (fun x hx=>by have:=r1.1 x hx;rw [hm] at this;omega) (qnl hch).2];apply qli;intro i hi;rw [r2,hm];rw [decide_eq_true (by omega),decide_eq_true (by omega)]
  simp
theorem qyl {p:Int→Bool} {a:Int} (k:Nat):cntB (fun n=>!p n) a k=k - cntB p a k:=by
 have h1:=qnr (p:=p) (q:=fun n=>!p n) a k (fun i _ hp=>by simp [hp]);have h2:=qyk (p:=fun n=>p n || !p n) (a:=a) k (fun i _=>by simp);omega
theorem qab5 {f:Fsd} (h:okFs f):qbh (qay f.2.2.1)=cntB (inL (qay f.2.2.1)) 34 (mny f.1 - 34):=by
 have hm:=qfm h
 have:=(qaw h).2.1
 exact qht _ (fun x hx=>by have:=qd8 hm.2.2.1 x hx;omega) (extP_parts.1 hm.2.2.1).1
theorem qlj {l:List Ex} (h:∀x∈l,0≤x.2):((qau l).length:Int)=qbh l:=by
 induction l with
 | nil=>rfl
 | cons x l ih=>
  have:=ih (fun y hy=>h y (List.mem_cons_of_mem _ hy))
  have hx:=h x (List.mem_cons_self ..);have e1:qau (x::l)=blkX x x.2.toNat++qau l:=rfl;have e2:qbh (x::l)=x.2+qbh l:=rfl
  have e3:(blkX x x.2.toNat).length=x.2.toNat:=by simp [blkX]
  rw [e1,e2,List.length_append,e3];omega
def sumS (fs:List Fl):Int:=((fs.map fun g=>(qau g.2).length).sum:Nat)
theorem qab6 {fs:List Fl} (h:∀g∈fs,∀x∈g.2,0≤x.2):sumS fs=qbh (qay fs):=by
 induction fs with
 | nil=>rfl
 | cons g fs ih=>
  have:=ih (fun k hk=>h k (List.mem_cons_of_mem _ hk))
  have hg:=qlj (h g (List.mem_cons_self ..));have e1:qay (g::fs)=g.2++qay fs:=rfl
  have e2:qbh (g.2++qay fs)=qbh g.2+qbh (qay fs):=by unfold qbh;rw [List.map_append,List.sum_append]
  rw [e1,e2,←this,←hg];unfold sumS;rw [List.map_cons,List.sum_cons];omega
theorem qab7 (fs:List Fl) (k:Nat) (h:k<fs.length):sumS (fs.take (k+1))=sumS (fs.take k)+(qau (fs[k]).2).length:=by
 unfold sumS;rw [List.take_succ_eq_append_getElem h,List.map_append,List.sum_append]
 simp
theorem qadc {f:Fsd} (h:okFs f) (k:Nat):0≤sumS (f.2.2.1.take k)∧sumS (f.2.2.1.take k)≤4096:=by
 have hm:=qfm h
 have hall:∀g∈f.2.2.1,∀x∈g.2,0≤x.2:=fun g hg x hx=>by have:=qd8 hm.2.2.1 x ((qlf hg).subset hx);omega
 have h1:=qab6 hall;have h2:=qab5 h;have h3:=qnq (inL (qay f.2.2.1)) 34 (mny f.1 - 34);have hmm:=((qcg f.1).1 (qaw h).1).2.2.1
 have e:sumS f.2.2.1=sumS (f.2.2.1.take k)+sumS (f.2.2.1.drop k):=by
  unfold sumS;rw [←Int.natCast_add,←List.sum_append,←List.map_append,List.take_append_drop]
 have a:0≤sumS (f.2.2.1.take k):=by unfold sumS;omega
 have b:0≤sumS (f.2.2.1.drop k):=by unfold sumS;omega
 omega
theorem qab8 {f g:Fsd} {but:List UInt8} (hf:okFs f) (hg:okFs g) (hd:g.1=f.1) (hs:∀x∈f.2.2.1,x∈g.2.2.1):Like f g but:=by
 intro x hx _;have h1:=qdr hf hx;have h2:=qdr hg (hs x hx);refine ⟨h1.2.2.2.2,h2.2.2.2.2,qlh h1.2.2.2.2 h2.2.2.2.2 (by rw [h1.2.2.2.1,h2.2.2.2.1]) ?_⟩;intro n _;rw [hd]
theorem qab9 {a b:Int} {l:List Ex} {n:Int} (ha:0≤a) (h:qd3 a b l n=0):qjl a b (qcl a b l n)∧qbh (qcl a b l n)=n∧qcl a b l n≠[]∧∀k,inL (qcl a b l n) k=true→inL l k=false:=by
 obtain ⟨f1,f2,r,f3,f4⟩:=qjw h;obtain ⟨r1,r2,r3⟩:=qe5 f1
 rcases qkr (qde a b l) n f2 (fun x hx=>(r1.1 x hx).2.1) with ⟨k1,_⟩ | ⟨p,x,q,c,k1,k2,k3,k4,k5⟩
 ·rw [k1] at f3;cases f3
 rw [k2] at f3;cases f3;rw [f4];refine ⟨qmh (q:=q) (x:=x) (y:=(x.1,c)) (k1 ▸ r1) rfl k3 k4, ?_,by simp, ?_⟩
 ·unfold qbh at *
  rw [List.map_append,List.sum_append]
  simpa using k5
 ·intro k hk
  have hin:inL (qde a b l) k=true:=by
   rw [qnm] at hk ⊢;obtain ⟨y,hy,h1,h2⟩:=hk;rw [k1]
   rcases List.mem_append.1 hy with hy | hy
   ·exact ⟨y,List.mem_append_left _ hy,h1,h2⟩
   ·obtain rfl:y=(x.1,c):=by simpa using hy
    exact ⟨x,by simp,h1,by simp only at h2;omega⟩
  rw [r2] at hin
  simp only [Bool.and_eq_true,Bool.not_eq_true'] at hin
  exact hin.2
theorem qix {f:Fsd} {s:List UInt8} {n:Int} (h:(qa4 f s n).2=0):okFs f∧qa4 f s n=((f.1,f.2.1,mkL f s n,f.2.2.2),0)∧okFs (f.1,f.2.1,mkL f s n,f.2.2.2)∧qaz (f.1,f.2.1,mkL f s n,f.2.2.2) s=0∧qjm (f.1,f.2.1,mkL f s n,f.2.2.2) s=n∧Like f (f.1,f.2.1,mkL f s n,f.2.2.2) []∧qaei (f.1,f.2.1,mkL f s n,f.2.2.2)=0∧qrb (f.1,f.2.1,mkL f s n,f.2.2.2)=qrb f - n∧1≤n∧n≤4096∧0≤qrb f∧qrb f≤4096:=by
 obtain ⟨h0,h1,h2⟩:=qafa h;have hok:=qmp h0;obtain ⟨m1,m2,m3,m4⟩:=mk_ok h1;have hd:=(qaw hok).1;have hmm:=qgu hd;have h34:=(qaw hok).2.1;have hm4:=((qcg f.1).1 hd).2.2.1;obtain ⟨T,hT⟩:∃T,T=qcl 34 (qa6 f) (qa3 f) n:=⟨_,rfl⟩;rw [←hT] at m3 m4;have ht:=qab9 (by decide) m2;rw [←hT,hmm] at ht;rw [hmm] at m3;have ha:=qra m3;have hA:okFs (f.1,f.2.1,insF f.2.2.1 (s,T),f.2.2.2):=qyg hok ha.2.1;have hin:(s,T)∈insF f.2.2.1 (s,T):=ins_mem.2 (.inl rfl);have hfi:=qdr hA hin
 have hpos:∀x∈T,0≤x.2:=fun x hx=>by have:=ht.1.1 x hx;omega
 have hlen:=qlj hpos;rw [ht.2.1] at hlen;rw [m4];refine ⟨hok,by unfold qa4;rw [h2,m4],hA,hfi.2.2.2.2, ?_,qab8 hok hA rfl (fun x hx=>ins_mem.2 (.inr hx)), ?_⟩
 ·have hs:qaz (f.1,f.2.1,insF f.2.2.1 (s,T),f.2.2.2) s=0:=hfi.2.2.2.2
  rw [(qlg hs).2.2];have hb:bloL (f.1,f.2.1,insF f.2.2.1 (s,T),f.2.2.2) s=qau T:=hfi.2.2.2.1
  rw [hb];exact hlen
 ·obtain ⟨c1,c2⟩:=qti hA
  obtain ⟨d1,d2⟩:=qti hok;have u1:=(qof hA).2.1;have u2:=(qof hok).2.1
  have hap:apX T=true:=by
   have hx:=(qgt m3).2.2.2.2.1;exact (qnl (qyh hx (List.sublist_append_right _ _))).2
  have hcT:=qht (a:=34) (k:=mny f.1 - 34) T (fun x hx=>by have:=ht.1.1 x hx;omega) hap;rw [ht.2.1] at hcT
  have hor:∀k,inL (qa3 (f.1,f.2.1,insF f.2.2.1 (s,T),f.2.2.2)) k=(inL (qa3 f) k || inL T k):=by
   intro k;rw [u1,u2]
   show inL (qay (insF f.2.2.1 (s,T))++qay f.2.2.2) k=_
   rw [Bool.eq_iff_iff]
   simp only [Bool.or_eq_true,qnm,List.mem_append]
   have hp:=qsp f.2.2.1 (s,T)
   constructor
   ·rintro ⟨x,hx | hx,h1,h2⟩
    ·rcases List.mem_append.1 (hp.mem_iff.1 hx) with hx | hx
     ·exact .inl ⟨x,.inl hx,h1,h2⟩
     ·exact .inr ⟨x,hx,h1,h2⟩
    ·exact .inl ⟨x,.inr hx,h1,h2⟩
   ·rintro (⟨x,hx | hx,h1,h2⟩ | ⟨x,hx,h1,h2⟩)
    ·exact ⟨x,.inl (hp.mem_iff.2 (List.mem_append_left _ hx)),h1,h2⟩
    ·exact ⟨x,.inr hx,h1,h2⟩
    ·exact ⟨x,.inl (hp.mem_iff.2 (List.mem_append_right _ hx)),h1,h2⟩
  have e1:=qnr (p:=inL (qa3 f)) (q:=inL T) 34 (mny f.1 - 34) (fun i _ hp=>by
   cases e:inL T (34+(i:Int)) with
   | false=>rfl
   | true=>rw [ht.2.2.2 _ e] at hp;cases hp)
  have e2:=qyl (p:=inL (qa3 f)) (a:=34) (mny f.1 - 34);have e3:=qyl (p:=fun k=>inL (qa3 f) k || inL T k) (a:=34) (mny f.1 - 34)
  have e4:qrb (f.1,f.2.1,insF f.2.2.1 (s,T),f.2.2.2)=cntB (fun k=>!(inL (qa3 f) k || inL T k)) 34 (mny f.1 - 34):=by
   rw [c2];exact qli _ (fun i _=>by rw [hor])
  have hw:=(qjw m2).2.1
  have hn:n≤4096:=by
   by_cases hx:n<1∨4096<n
   ·rw [(qhq (qjw m2).1 hx).1] at m2;cases m2
   ·omega
  have b1:=qnq (fun k=>!inL (qa3 f) k) 34 (mny f.1 - 34);have b2:=qnq (inL (qa3 f)) 34 (mny f.1 - 34);refine ⟨c1, ?_,hw,hn, ?_, ?_⟩
  ·rw [e4,d2];omega
  ·rw [d2];omega
  ·rw [d2];omega
theorem qaca {l:List Pu} {k:Int} (h:∀p∈l,p.1≠k):qb3 k l=none:=by
 induction l with
 | nil=>rfl
 | cons p l ih=>
  unfold qb3;rw [ih (fun q hq=>h q (List.mem_cons_of_mem _ hq))]
  simp only
  rw [if_neg (h p (List.mem_cons_self ..))]
/-! ### a commit,wherever power fails in it -/
abbrev Hd:=Nat × Nat × Nat × Nat
def okH (h:Hd):Prop:=h.1<4294967296∧h.2.1<4294967296∧h.2.2.1<4294967296∧h.2.2.2<4294967296
def le2 (n:Nat):List UInt8:=[UInt8.ofNat (n % 256),UInt8.ofNat (n / 256 % 256)]
theorem qr0 (n:Nat):(le2 n).length=2:=rfl
theorem qaff (n:Nat) (h:n<65536):un4 (le2 n)=n:=by
 simp only [un4,le2,UInt8.toNat_ofNat']
 omega
def hdB (h:Hd):List UInt8:=le4 h.1++(le4 h.2.1++(le4 h.2.2.1++le4 h.2.2.2))
theorem qds (h:Hd):(hdB h).length=16:=rfl
def padP (rest:List UInt8):List UInt8:=rest.take 107++List.replicate (107 - rest.length) 0
theorem qacb (rest:List UInt8):(padP rest).length=107:=by unfold padP;rw [List.length_append,List.length_take,List.length_replicate];omega
def qdj (h:Hd) (i m:Nat) (rest:List UInt8):List UInt8:=hdB h++(le2 i++(le2 m++(UInt8.ofNat (min rest.length 107)::padP rest)))
theorem qym (h:Hd) (i m:Nat) (rest:List UInt8):(qdj h i m rest).length=128:=by
 unfold qdj;simp only [List.length_append,List.length_cons,qds,qr0,qacb]
def qea (n:Nat):Nat:=max 1 ((n+106) / 107)
def rowB (h:Hd) (r:List UInt8):List (List UInt8):=(List.range (qea r.length)).map fun i=>qdj h i (qea r.length) (r.drop (107*i))
theorem qc7 (h:Hd) (r:List UInt8):(rowB h r).length=qea r.length:=by simp [rowB]
theorem qeu (h:Hd) (r:List UInt8) (i:Nat) (hi:i<(rowB h r).length):(rowB h r)[i]=qdj h i (qea r.length) (r.drop (107*i)):=by simp [rowB]
theorem qgh (n:Nat):1≤qea n:=by unfold qea;omega
theorem qh8 (n:Nat) (h:n≤16384):qea n≤154:=by unfold qea;omega
def frmE (h:Hd) (r:List UInt8):Int:=if h.1=0∨h.2.1=0 then 2 else if 16384<r.length then 3 else 0
def frmL (h:Hd) (r:List UInt8):List (List UInt8):=if frmE h r=0 then rowB h r else []
theorem qyn {h:Hd} {r:List UInt8} (he:frmE h r=0):h.1≠0∧h.2.1≠0∧r.length≤16384:=by
 unfold frmE at he
 split at he
 ·cases he
 ·split at he
  ·cases he
  ·rename_i a b;exact ⟨fun e=>a (.inl e),fun e=>a (.inr e),by omega⟩
theorem qyo {h:Hd} {r:List UInt8} (h1:h.1≠0) (h2:h.2.1≠0) (h3:r.length≤16384):frmE h r=0:=by
 unfold frmE;rw [if_neg (by rintro (e | e);exact h1 e;exact h2 e),if_neg (by omega)]
def genF (b:List UInt8):Nat:=un4 (b.take 4)
def numB (b:List UInt8):Nat:=un4 ((b.drop 4).take 4)
def qbw (b:List UInt8):Nat:=un4 ((b.drop 8).take 4)
def qeb (b:List UInt8):Nat:=un4 ((b.drop 12).take 4)
def cntF (b:List UInt8):Nat:=un4 ((b.drop 18).take 2)
def sizB (b:List UInt8):Nat:=(b.getD 20 0).toNat
def qjp (b:List UInt8):List UInt8:=(b.drop 21).take (min (sizB b) 107)
theorem qr1 (l:List UInt8):un4 (l.take 4)<4294967296:=by
 have:=qi8 (l.take 4)
 have hle:256 ^ (l.take 4).length≤256 ^ 4:=Nat.pow_le_pow_right (by decide) (by rw [List.length_take];omega);exact Nat.lt_of_lt_of_le this hle
theorem qlk (b:List UInt8):genF b<4294967296:=qr1 _
theorem qog (b:List UInt8):qbw b<4294967296:=qr1 _
theorem qacc (b:List UInt8):qeb b<4294967296:=qr1 _
theorem qafg (b:List UInt8):cntF b<65536:=by
 have:=qi8 ((b.drop 18).take 2)
 have hle:256 ^ ((b.drop 18).take 2).length≤256 ^ 2:=Nat.pow_le_pow_right (by decide) (by rw [List.length_take];omega);exact Nat.lt_of_lt_of_le this hle
theorem qyp (h:Hd) (i m:Nat) (r:List UInt8) (hh:h.1<4294967296):genF (qdj h i m r)=h.1:=by
 have e:(qdj h i m r).take 4=le4 h.1:=by simp [qdj,hdB,le4]
 unfold genF;rw [e,qil _ hh]
theorem qfc (h:Hd) (i m:Nat) (r:List UInt8) (hh:h.2.2.1<4294967296):qbw (qdj h i m r)=h.2.2.1:=by
 have e:((qdj h i m r).drop 8).take 4=le4 h.2.2.1:=by simp [qdj,hdB,le4]
 unfold qbw;rw [e,qil _ hh]
theorem qm4 (h:Hd) (i m:Nat) (r:List UInt8) (hh:h.2.2.2<4294967296):qeb (qdj h i m r)=h.2.2.2:=by
 have e:((qdj h i m r).drop 12).take 4=le4 h.2.2.2:=by simp [qdj,hdB,le4]
 unfold qeb;rw [e,qil _ hh]
theorem qp8 (h:Hd) (i m:Nat) (r:List UInt8) (hm:m<65536):cntF (qdj h i m r)=m:=by
 have e:((qdj h i m r).drop 18).take 2=le2 m:=by simp [qdj,hdB,le4,le2]
 unfold cntF;rw [e,qaff _ hm]
theorem qyq (h:Hd) (i m:Nat) (r:List UInt8):sizB (qdj h i m r)=min r.length 107:=by
 have e:(qdj h i m r).getD 20 0=UInt8.ofNat (min r.length 107):=by simp [qdj,hdB,le4,le2]
 unfold sizB;rw [e,UInt8.toNat_ofNat'];omega
theorem qvh (h:Hd) (i m:Nat) (r:List UInt8):qjp (qdj h i m r)=r.take 107:=by
 have e:(qdj h i m r).drop 21=padP r:=by simp [qdj,hdB,le4,le2]
 unfold qjp;rw [e,qyq]
 unfold padP;rw [Nat.min_eq_left (by omega:min r.length 107≤107),List.take_append_of_le_length (by rw [List.length_take];omega),List.take_take]
 by_cases hl:r.length≤107
 ·rw [List.take_of_length_le (by omega),List.take_of_length_le hl]
 ·congr 1;omega
def qfn (l:List (List UInt8)):List UInt8:=(l.map qjp).flatten
theorem qvi (l:List (List UInt8)) (b:List UInt8):qfn (l++[b])=qfn l++qjp b:=by simp [qfn]
theorem qm5 (l:List (List UInt8)) (k:Nat) (h:k<l.length):qfn (l.take (k+1))=qfn (l.take k)++qjp l[k]:=by
 rw [List.take_succ_eq_append_getElem h,qvi]
theorem qp9 (b:List UInt8):(qjp b).length≤107:=by unfold qjp;rw [List.length_take];omega
theorem qqa:∀l:List (List UInt8),(qfn l).length≤107*l.length
 | []=>by simp [qfn]
 | b::l=>by
  have:=qqa l
  have hb:=qp9 b;have e:qfn (b::l)=qjp b++qfn l:=rfl
  rw [e,List.length_append,List.length_cons];omega
theorem qg8 (h:Hd) (r:List UInt8):∀k,k≤(rowB h r).length→qfn ((rowB h r).take k)=r.take (107*k)
 | 0,_=>by simp [qfn]
 | k+1,hk=>by
  rw [qm5 _ k (by omega),qg8 h r k (by omega),qeu,qvh];rw [show 107*(k+1)=107*k+107 by omega,List.take_add]
theorem qyr (h:Hd) (r:List UInt8):qfn (rowB h r)=r:=by
 have:=qg8 h r (rowB h r).length (Nat.le_refl _)
 rw [List.take_length] at this;rw [this,List.take_of_length_le]
 rw [qc7];unfold qea;omega
abbrev Op:=List UInt8 × Nat × Nat
def recO (l:List (List UInt8)):List UInt8:=qfn (l.take (cntF (l.headD [])))
def hitO (g n p:Nat) (l:List (List UInt8)):Bool:=
 decide (l≠[]∧cntF (l.headD [])≤l.length∧frmE (g,n,qbw (l.headD []),p) (recO l)=0∧rowB (g,n,qbw (l.headD []),p) (recO l)=l.take (cntF (l.headD [])))
def opn (g n p:Nat) (l:List (List UInt8)):Op:=if hitO g n p l then (recO l,qbw (l.headD []),cntF (l.headD [])) else ([],0,0)
theorem qfo (g n p:Nat) (l:List (List UInt8)):hitO g n p l=true↔l≠[]∧cntF (l.headD [])≤l.length∧frmE (g,n,qbw (l.headD []),p) (recO l)=0∧rowB (g,n,qbw (l.headD []),p) (recO l)=l.take (cntF (l.headD [])):=by
 simp [hitO]
theorem qhj {g n p:Nat} {l:List (List UInt8)} (h:hitO g n p l=true):opn g n p l=(recO l,qbw (l.headD []),cntF (l.headD [])):=by unfold opn;rw [if_pos h]
theorem qll {g n p:Nat} {l:List (List UInt8)} (h:hitO g n p l=false):opn g n p l=([],0,0):=by unfold opn;rw [h];rfl
theorem qys {g n p:Nat} {l:List (List UInt8)} (h:hitO g n p l=true):cntF (l.headD [])=qea (recO l).length∧1≤cntF (l.headD [])∧cntF (l.headD [])≤l.length:=by
 obtain ⟨h1,h2,h3,h4⟩:=(qfo g n p l).1 h
 have:=congrArg List.length h4
 rw [qc7,List.length_take,Nat.min_eq_left h2] at this;exact ⟨this.symm,by rw [←this];exact qgh _,h2⟩
theorem qtj (g n p:Nat) (l:List (List UInt8)):(opn g n p l).2.2=0↔hitO g n p l=false:=by
 cases h:hitO g n p l
 ·rw [qll h];simp
 ·rw [qhj h];have:=(qys h).2.1
  constructor
  ·intro e;have e':cntF (l.headD [])=0:=e;omega
  ·intro e;cases e
theorem qg9 (g n p:Nat) (l:List (List UInt8)):(opn g n p l).2.2≤l.length:=by
 cases h:hitO g n p l
 ·rw [qll h];exact Nat.zero_le _
 ·rw [qhj h];exact (qys h).2.2
theorem qh9 (g n p:Nat) (l:List (List UInt8)):(opn g n p l).2.1<4294967296:=by
 cases h:hitO g n p l
 ·rw [qll h];show (0:Nat)<_;omega
 ·rw [qhj h];exact qog _
theorem qyt (a l:List (List UInt8)) (h:0<a.length):(a++l).headD []=a[0]:=by
 cases a with
 | nil=>simp at h
 | cons x t=>rfl
theorem qafh {g n p s:Nat} {r:List UInt8} (l:List (List UInt8)) (hs:s<4294967296) (he:frmE (g,n,s,p) r=0):hitO g n p (rowB (g,n,s,p) r++l)=true∧recO (rowB (g,n,s,p) r++l)=r∧qbw ((rowB (g,n,s,p) r++l).headD [])=s∧cntF ((rowB (g,n,s,p) r++l).headD [])=qea r.length:=by
 have hl:=qc7 (g,n,s,p) r;have hp:=qgh r.length;have hle:=qh8 r.length (qyn he).2.2
 have h0:0<(rowB (g,n,s,p) r).length:=by omega
 have hd:(rowB (g,n,s,p) r++l).headD []=(rowB (g,n,s,p) r)[0]:=qyt _ _ h0
 have e1:qbw ((rowB (g,n,s,p) r++l).headD [])=s:=by rw [hd,qeu];exact qfc _ _ _ _ hs
 have e2:cntF ((rowB (g,n,s,p) r++l).headD [])=qea r.length:=by rw [hd,qeu];exact qp8 _ _ _ _ (by omega)
 have e3:(rowB (g,n,s,p) r++l).take (qea r.length)=rowB (g,n,s,p) r:=by rw [←hl,List.take_left]
 have e4:recO (rowB (g,n,s,p) r++l)=r:=by unfold recO;rw [e2,e3,qyr]
 refine ⟨?_,e4,e1,e2⟩;rw [qfo,e1,e2,e4,e3];refine ⟨?_, ?_,he,rfl⟩
 ·intro e;have:=congrArg List.length e;rw [List.length_append,List.length_nil] at this;omega
 ·rw [List.length_append];omega
theorem qyu {g n p s:Nat} {r:List UInt8} (l:List (List UInt8)) (hs:s<4294967296) (he:frmE (g,n,s,p) r=0):opn g n p (rowB (g,n,s,p) r++l)=(r,s,(rowB (g,n,s,p) r).length):=by
 obtain ⟨h1,h2,h3,h4⟩:=qafh l hs he;rw [qhj h1,h2,h3,h4,qc7]
theorem qtk {g n p:Nat} {l:List (List UInt8)} (h:(opn g n p l).2.2≠0):frmE (g,n,(opn g n p l).2.1,p) (opn g n p l).1=0∧rowB (g,n,(opn g n p l).2.1,p) (opn g n p l).1=l.take (opn g n p l).2.2:=by
 cases hh:hitO g n p l
 ·exact absurd ((qtj g n p l).2 hh) h
 ·obtain ⟨h1,h2,h3,h4⟩:=(qfo g n p l).1 hh
  rw [qhj hh];exact ⟨h3,h4⟩
theorem qiy {g n p:Nat} {l:List (List UInt8)} (hg:g<4294967296) (hp:p<4294967296) (h:(opn g n p l).2.2≠0) (j:Nat) (hj:j<(opn g n p l).2.2) (hjl:j<l.length):genF l[j]=g∧qbw l[j]=(opn g n p l).2.1∧qeb l[j]=p:=by
 obtain ⟨h1,h2⟩:=qtk h;have hlen:=congrArg List.length h2;rw [List.length_take,Nat.min_eq_left (qg9 g n p l)] at hlen
 have hj':j<(rowB (g,n,(opn g n p l).2.1,p) (opn g n p l).1).length:=by omega
 have e:l[j]=(rowB (g,n,(opn g n p l).2.1,p) (opn g n p l).1)[j]:=by
  simp only [h2,List.getElem_take]
 rw [e,qeu];exact ⟨qyp _ _ _ _ hg,qfc _ _ _ _ (qh9 g n p l),qm4 _ _ _ _ hp⟩
theorem qtl {g n p:Nat} {l m:List (List UInt8)} (h:(opn g n p l).2.2≠0) (hm:(opn g n p l).2.2≤m.length) (he:m.take (opn g n p l).2.2=l.take (opn g n p l).2.2):opn g n p m=opn g n p l:=by
 obtain ⟨h1,h2⟩:=qtk h
 have e:m=rowB (g,n,(opn g n p l).2.1,p) (opn g n p l).1++m.drop (opn g n p l).2.2:=by rw [h2,←he,List.take_append_drop]
 have hlen:(rowB (g,n,(opn g n p l).2.1,p) (opn g n p l).1).length=(opn g n p l).2.2:=by rw [h2,List.length_take,Nat.min_eq_left (qg9 g n p l)]
 rw [e,qyu _ (qh9 g n p l) h1,hlen]
end Go.Proofs.YtnmbbpdhjkaidaaGreat
