/-
  Plain mathematics of frames: a record's blocks, the record that blocks begin with, the log of blocks.
-/
import Derived.Test.YtnmbbpdhjkaidaaGreatMathFs7
import Derived.Test.YtnmbbpdhjkaidaaGreatMathRm
namespace Go.Proofs.YtnmbbpdhjkaidaaGreat
open Go.RowKit
set_option linter.all false
theorem qaef {f g:Fsd} {but:List UInt8} (hf:okFs f) (hg:okFs g) (hd:g.1=f.1) (hs:∀x∈f.2.2.1,x∈g.2.2.1):Like f g but:=by
 intro x hx _;have h1:=qdj hf hx;have h2:=qdj hg (hs x hx);refine ⟨h1.2.2.2.2,h2.2.2.2.2,qmy h1.2.2.2.2 h2.2.2.2.2 (by rw [h1.2.2.2.1,h2.2.2.2.1]) ?_⟩;intro n _;rw [hd]
theorem qaeg {a b:Int} {l:List Ex} {n:Int} (ha:0≤a) (h:qem a b l n=0):qk4 a b (qcr a b l n)∧qbm (qcr a b l n)=n∧qcr a b l n≠[]∧∀k,inL (qcr a b l n) k=true→inL l k=false:=by
 obtain ⟨f1,f2,r,f3,f4⟩:=qle h;obtain ⟨r1,r2,r3⟩:=qgb f1
 rcases ql5 (qdn a b l) n f2 (fun x hx=>(r1.1 x hx).2.1) with ⟨k1,_⟩ | ⟨p,x,q,c,k1,k2,k3,k4,k5⟩
 ·rw [k1] at f3;cases f3
 rw [k2] at f3;cases f3;rw [f4];refine ⟨qnv (q:=q) (x:=x) (y:=(x.1,c)) (k1 ▸ r1) rfl k3 k4, ?_,by simp, ?_⟩
 ·unfold qbm at *
  rw [List.map_append,List.sum_append]
  simpa using k5
 ·intro k hk
  have hin:inL (qdn a b l) k=true:=by
   rw [qo2] at hk ⊢;obtain ⟨y,hy,h1,h2⟩:=hk;rw [k1]
   rcases List.mem_append.1 hy with hy | hy
   ·exact ⟨y,List.mem_append_left _ hy,h1,h2⟩
   ·obtain rfl:y=(x.1,c):=by simpa using hy
    exact ⟨x,by simp,h1,by simp only at h2;omega⟩
  rw [r2] at hin
  simp only [Bool.and_eq_true,Bool.not_eq_true'] at hin
  exact hin.2
theorem qkn {f:Fsd} {s:List UInt8} {n:Int} (h:(qa6 f s n).2=0):okFs f∧qa6 f s n=((f.1,f.2.1,mkL f s n,f.2.2.2),0)∧okFs (f.1,f.2.1,mkL f s n,f.2.2.2)∧qay (f.1,f.2.1,mkL f s n,f.2.2.2) s=0∧qk5 (f.1,f.2.1,mkL f s n,f.2.2.2) s=n∧Like f (f.1,f.2.1,mkL f s n,f.2.2.2) []∧qahb (f.1,f.2.1,mkL f s n,f.2.2.2)=0∧qsu (f.1,f.2.1,mkL f s n,f.2.2.2)=qsu f - n∧1≤n∧n≤4096∧0≤qsu f∧qsu f≤4096:=by
 obtain ⟨h0,h1,h2⟩:=qah3 h;have hok:=qma h0;obtain ⟨m1,m2,m3,m4⟩:=mk_ok h1;have hd:=(qap hok).1;have hmm:=qij hd;have h34:=(qap hok).2.1;have hm4:=((qcb f.1).1 hd).2.2.1;obtain ⟨T,hT⟩:∃T,T=qcr 34 (qa9 f) (qa5 f) n:=⟨_,rfl⟩;rw [←hT] at m3 m4;have ht:=qaeg (by decide) m2;rw [←hT,hmm] at ht;rw [hmm] at m3;have ha:=qst m3;have hA:okFs (f.1,f.2.1,insF f.2.2.1 (s,T),f.2.2.2):=qz6 hok ha.2.1;have hin:(s,T)∈insF f.2.2.1 (s,T):=ins_mem.2 (.inl rfl);have hfi:=qdj hA hin
 have hpos:∀x∈T,0≤x.2:=fun x hx=>by have:=ht.1.1 x hx;omega
 have hlen:=qm0 hpos;rw [ht.2.1] at hlen;rw [m4];refine ⟨hok,by unfold qa6;rw [h2,m4],hA,hfi.2.2.2.2, ?_,qaef hok hA rfl (fun x hx=>ins_mem.2 (.inr hx)), ?_⟩
 ·have hs:qay (f.1,f.2.1,insF f.2.2.1 (s,T),f.2.2.2) s=0:=hfi.2.2.2.2
  rw [(qmx hs).2.2];have hb:bloL (f.1,f.2.1,insF f.2.2.1 (s,T),f.2.2.2) s=qax T:=hfi.2.2.2.1
  rw [hb];exact hlen
 ·obtain ⟨c1,c2⟩:=quz hA
  obtain ⟨d1,d2⟩:=quz hok;have u1:=(qpu hA).2.1;have u2:=(qpu hok).2.1
  have hap:apX T=true:=by
   have hx:=(qii m3).2.2.2.2.1;exact (qo1 (qz7 hx (List.sublist_append_right _ _))).2
  have hcT:=qjj (a:=34) (k:=mny f.1 - 34) T (fun x hx=>by have:=ht.1.1 x hx;omega) hap;rw [ht.2.1] at hcT
  have hor:∀k,inL (qa5 (f.1,f.2.1,insF f.2.2.1 (s,T),f.2.2.2)) k=(inL (qa5 f) k || inL T k):=by
   intro k;rw [u1,u2]
   show inL (qa0 (insF f.2.2.1 (s,T))++qa0 f.2.2.2) k=_
   rw [Bool.eq_iff_iff]
   simp only [Bool.or_eq_true,qo2,List.mem_append]
   have hp:=qt5 f.2.2.1 (s,T)
   constructor
   ·rintro ⟨x,hx | hx,h1,h2⟩
    ·rcases List.mem_append.1 (hp.mem_iff.1 hx) with hx | hx
     ·exact .inl ⟨x,.inl hx,h1,h2⟩
     ·exact .inr ⟨x,hx,h1,h2⟩
    ·exact .inl ⟨x,.inr hx,h1,h2⟩
   ·rintro (⟨x,hx | hx,h1,h2⟩ | ⟨x,hx,h1,h2⟩)
    ·exact ⟨x,.inl (hp.mem_iff.2 (List.mem_append_left _ hx)),h1,h2⟩
    ·exact ⟨x,.inr hx,h1,h2⟩
    ·exact ⟨x,.inl (hp.mem_iff.2 (List.mem_append_right _ hx)),h1,h2⟩
  have e1:=qo7 (p:=inL (qa5 f)) (q:=inL T) 34 (mny f.1 - 34) (fun i _ hp=>by
   cases e:inL T (34+(i:Int)) with
   | false=>rfl
   | true=>rw [ht.2.2.2 _ e] at hp;cases hp)
  have e2:=qaab (p:=inL (qa5 f)) (a:=34) (mny f.1 - 34);have e3:=qaab (p:=fun k=>inL (qa5 f) k || inL T k) (a:=34) (mny f.1 - 34)
  have e4:qsu (f.1,f.2.1,insF f.2.2.1 (s,T),f.2.2.2)=cntB (fun k=>!(inL (qa5 f) k || inL T k)) 34 (mny f.1 - 34):=by
   rw [c2];exact qmz _ (fun i _=>by rw [hor])
  have hw:=(qle m2).2.1
  have hn:n≤4096:=by
   by_cases hx:n<1∨4096<n
   ·rw [(qjg (qle m2).1 hx).1] at m2;cases m2
   ·omega
  have b1:=qo6 (fun k=>!inL (qa5 f) k) 34 (mny f.1 - 34);have b2:=qo6 (inL (qa5 f)) 34 (mny f.1 - 34);refine ⟨c1, ?_,hw,hn, ?_, ?_⟩
  ·rw [e4,d2];omega
  ·rw [d2];omega
  ·rw [d2];omega
def qdy (d:Dk):Fsd × Int:=
 if (qaj d).2.2≠0 then (fz,(qaj d).2.2)
 else if d.2.1.any (fun p=>decide (p.1<34))=true then (fz,70)
 else if qdi (genB d (qaj d).1 (qaj d).2.1) (mny d)≠0 then (fz,70)
 else (((d.1,d.2.1,[]),(qaj d).1,qf2 (genB d (qaj d).1 (qaj d).2.1) (mny d),qf2 (genB d (qaj d).1 (qaj d).2.1) (mny d)),0)
def qei (f g:Fsd) (many:Int) (K:List Bool):Dk × Int:=
 if fsE f≠0∨fsE g≠0∨f.1.2.2≠[] then (dz,8)
 else if (doD f.1 g.1.2.2 (g.1.2.2.length:Nat)).2≠0∨¬((doD f.1 g.1.2.2 (g.1.2.2.length:Nat)).1.1=g.1.1∧(doD f.1 g.1.2.2 (g.1.2.2.length:Nat)).1.2.1=g.1.2.1) then (dz,8)
 else if many<0∨(g.1.2.2.length:Int)<many then (dz,2)
 else qec (doD f.1 g.1.2.2 many).1 K
abbrev qm1 (d:Dk) (K:List Bool):Dk:=(qcj d.1 (kept d.2.1 K),[],[])
theorem qaeh:∀p∈([]:List Pu),34≤p.1:=by intro p hp;cases hp
theorem qah8 {f:Fsd} (h:okFs f):qdy f.1=(((f.1.1,f.1.2.1,[]),f.2.1,f.2.2.2,f.2.2.2),0):=by
 have h3:=(qap h).2.2.2;obtain ⟨c1,c2,c3,c4,c5,c6⟩:=h;unfold qdy
 have hn:¬f.1.2.1.any (fun p=>decide (p.1<34))=true:=by
  rw [List.any_eq_true];rintro ⟨p,hp,h4⟩
  have:=c3 p hp
  simp at h4
  omega
 rw [if_neg (by rw [c1];decide),if_neg hn,c2,if_neg (by rw [c4];decide),c5]
theorem qaei {s:List UInt8} {g:Nat} {D K:List Fl} (h:okFs ((s,[],[]),g,D,K)):qdy (s,[],[])=(((s,[],[]),g,K,K),0):=by
 have h2:=qah8 h;dsimp only at h2;exact h2
theorem qu0 {l:List Pu} {k:Int} (h:∀p∈l,p.1≠k):qb0 k l=none:=by
 induction l with
 | nil=>rfl
 | cons p l ih=>
  unfold qb0;rw [ih (fun q hq=>h q (List.mem_cons_of_mem _ hq))]
  simp only
  rw [if_neg (h p (List.mem_cons_self ..))]
theorem put_in {d:Dk} (h:okD d=true):∀p∈d.2.1,0≤p.1∧128*p.1.toNat+128≤d.1.length∧p.2.length=128:=fun p hp=>by
 obtain ⟨hf,_,_⟩:=Fine.of_ok h
 have:=qdh (hf.2.2.2 p hp)
 have:=hf.1
 omega
theorem qaac {d:Dk} (K:List Bool) (h:okD d=true) (n:Nat):blk (qcj d.1 (kept d.2.1 K)) n=(qb0 n (kept d.2.1 K)).getD (blk d.1 n):=
 qf8 d.1 n _ d.1 rfl (fun p hp=>put_in h p (qfq _ _ _ hp))
theorem qaad {S:Int→Prop} {d:Dk} (K:List Bool) (h:okD d=true) (hw:∀p∈d.2.1,¬S p.1) {k:Nat} (hk:S k):blk (qcj d.1 (kept d.2.1 K)) k=blk d.1 k:=by
 rw [qaac K h,qu0 (fun p hp e=>hw p (qfq _ _ _ hp) (e ▸ hk))];rfl
def qm2 (g:Nat) (n:Int):Prop:=(0≤n∧n<2)∨(((2+g % 2*16:Nat):Int)≤n∧n<((2+g % 2*16+16:Nat):Int))
theorem qaae {x d:Dk} {g sz:Nat} (hx:x.1.length=d.1.length) (hlen:d.1.length=128*mny d) (hm:34<mny d) (hs:sz≤2048) (h:∀k:Nat,qm2 g k→blk x.1 k=blk d.1 k):genB x g sz=genB d g sz:=by
 unfold genB;apply List.ext_getElem?;intro i;rw [List.getElem?_take,List.getElem?_take]
 by_cases hi:i<sz
 ·rw [if_pos hi,if_pos hi,List.getElem?_drop,List.getElem?_drop]
  have e1:128*(2+g % 2*16)+i=128*(2+g % 2*16+i / 128)+i % 128:=by omega
  rw [e1,←qmu (by omega) (by omega),←qmu (by omega) (by omega),h _ (by unfold qm2;omega)]
 ·rw [if_neg hi,if_neg hi]
theorem qah9 {f:Fsd} {d:Dk} (h:okFs f) (hok:okD d=true) (hlen:d.1.length=f.1.1.length) (hb:∀k:Nat,qm2 f.2.1 k→blk d.1 k=blk f.1.1 k) (hw:∀p∈d.2.1,34≤p.1):okFs (d,f.2.1,f.2.2.2,f.2.2.2):=by
 obtain ⟨h1,h2,h3,h4⟩:=qap h;obtain ⟨s1,s2⟩:=qjn h
 have hm:mny d=mny f.1:=by unfold mny;rw [hlen]
 have hL:qaj d=qaj f.1:=by
  have e1:qi5 d=qi5 f.1:=by unfold qi5;rw [qgh (hb 0 (by unfold qm2;omega)),qgh (hb 1 (by unfold qm2;omega))]
  unfold qaj;rw [e1,hm,qfr hok,qfr h1]
 have hG:genB d f.2.1 (qaj f.1).2.1=genB f.1 f.2.1 (qaj f.1).2.1:=qaae hlen (qgx h1) h2 s1 hb;have hK:=qpr h;obtain ⟨c1,c2,c3,c4,c5,c6⟩:=h;refine ⟨by show (qaj d).2.2=0;rw [hL];exact c1,by show (qaj d).1=_;rw [hL];exact c2,hw, ?_, ?_, ?_⟩
 ·show qdi (genB d f.2.1 (qaj d).2.1) (mny d)=0
  rw [hL,hG,hm];exact c4
 ·show qf2 (genB d f.2.1 (qaj d).2.1) (mny d)=f.2.2.2
  rw [hL,hG,hm];exact c5
 ·show chkF f.2.2.2 (mny d)=0
  rw [hm];exact hK
theorem qrt {f:Fsd} {y:Dk} (K:List Bool) (h:okFs f) (hok:okD y=true) (hm:mny y=mny f.1) (hb:∀k:Nat,qm2 f.2.1 k→blk y.1 k=blk f.1.1 k) (hw:∀p∈y.2.1,¬qm2 f.2.1 p.1):
  okFs (qm1 y K,f.2.1,f.2.2.2,f.2.2.2)∧qdy (qm1 y K)=((qm1 y K,f.2.1,f.2.2.2,f.2.2.2),0):=by
 obtain ⟨c1,c2⟩:=qacn K hok;have h1:okFs (qm1 y K,f.2.1,f.2.2.2,f.2.2.2):=qah9 h c1 (by rw [c2,qgx hok,hm,qgx (qap h).1]) (fun k hk=>(qaad (S:=qm2 f.2.1) K hok hw hk).trans (hb k hk)) qaeh;exact ⟨h1,qaei h1⟩
theorem qaej {f:Fsd} (h:okFs f):∀p∈f.1.2.1,¬qm2 f.2.1 p.1:=fun p hp hs=>by
 have:=h.2.2.1 p hp
 unfold qm2 at hs;omega
theorem qaaf {f:Fsd} (K:List Bool) (h:okFs f):okFs (qm1 f.1 K,f.2.1,f.2.2.2,f.2.2.2)∧qdy (qm1 f.1 K)=((qm1 f.1 K,f.2.1,f.2.2.2,f.2.2.2),0):=
 qrt K h (qap h).1 rfl (fun _ _=>rfl) (qaej h)
/-! ### a commit,wherever power fails in it -/
theorem qaag {d x:Dk} {l:List Ac} (h:qa7 d l=some x) (j:Nat):∃y,qa7 d (l.take j)=some y∧qa7 y (l.drop j)=some x:=by
 rw [←List.take_append_drop j l,qb5] at h;obtain ⟨y,h1,h2⟩:=Option.bind_eq_some_iff.1 h;exact ⟨y,h1,h2⟩
abbrev Hd:=Nat × Nat × Nat × Nat
def okH (h:Hd):Prop:=h.1<4294967296∧h.2.1<4294967296∧h.2.2.1<4294967296∧h.2.2.2<4294967296
def le2 (n:Nat):List UInt8:=[UInt8.ofNat (n % 256),UInt8.ofNat (n / 256 % 256)]
theorem qth (n:Nat):(le2 n).length=2:=rfl
theorem qaia (n:Nat) (h:n<65536):un4 (le2 n)=n:=by
 simp only [un4,le2,UInt8.toNat_ofNat']
 omega
def hdB (h:Hd):List UInt8:=le4 h.1++(le4 h.2.1++(le4 h.2.2.1++le4 h.2.2.2))
theorem qd8 (h:Hd):(hdB h).length=16:=rfl
def padP (rest:List UInt8):List UInt8:=rest.take 107++List.replicate (107 - rest.length) 0
theorem qaek (rest:List UInt8):(padP rest).length=107:=by unfold padP;rw [List.length_append,List.length_take,List.length_replicate];omega
def qdu (h:Hd) (i m:Nat) (rest:List UInt8):List UInt8:=hdB h++(le2 i++(le2 m++(UInt8.ofNat (min rest.length 107)::padP rest)))
theorem qaah (h:Hd) (i m:Nat) (rest:List UInt8):(qdu h i m rest).length=128:=by
 unfold qdu;simp only [List.length_append,List.length_cons,qd8,qth,qaek]
def qe9 (n:Nat):Nat:=max 1 ((n+106) / 107)
def rowB (h:Hd) (r:List UInt8):List (List UInt8):=(List.range (qe9 r.length)).map fun i=>qdu h i (qe9 r.length) (r.drop (107*i))
theorem qdv (h:Hd) (r:List UInt8):(rowB h r).length=qe9 r.length:=by simp [rowB]
theorem qfv (h:Hd) (r:List UInt8) (i:Nat) (hi:i<(rowB h r).length):(rowB h r)[i]=qdu h i (qe9 r.length) (r.drop (107*i)):=by simp [rowB]
theorem qh2 (n:Nat):1≤qe9 n:=by unfold qe9;omega
theorem qjx (n:Nat) (h:n≤16384):qe9 n≤154:=by unfold qe9;omega
def frmE (h:Hd) (r:List UInt8):Int:=if h.1=0∨h.2.1=0 then 2 else if 16384<r.length then 3 else 0
def frmL (h:Hd) (r:List UInt8):List (List UInt8):=if frmE h r=0 then rowB h r else []
theorem qaai {h:Hd} {r:List UInt8} (he:frmE h r=0):h.1≠0∧h.2.1≠0∧r.length≤16384:=by
 unfold frmE at he
 split at he
 ·cases he
 ·split at he
  ·cases he
  ·rename_i a b;exact ⟨fun e=>a (.inl e),fun e=>a (.inr e),by omega⟩
theorem qaaj {h:Hd} {r:List UInt8} (h1:h.1≠0) (h2:h.2.1≠0) (h3:r.length≤16384):frmE h r=0:=by
 unfold frmE;rw [if_neg (by rintro (e | e);exact h1 e;exact h2 e),if_neg (by omega)]
def genF (b:List UInt8):Nat:=un4 (b.take 4)
def numB (b:List UInt8):Nat:=un4 ((b.drop 4).take 4)
def qb2 (b:List UInt8):Nat:=un4 ((b.drop 8).take 4)
def qeu (b:List UInt8):Nat:=un4 ((b.drop 12).take 4)
def cntF (b:List UInt8):Nat:=un4 ((b.drop 18).take 2)
def sizB (b:List UInt8):Nat:=(b.getD 20 0).toNat
def qk7 (b:List UInt8):List UInt8:=(b.drop 21).take (min (sizB b) 107)
theorem qti (l:List UInt8):un4 (l.take 4)<4294967296:=by
 have:=qkw (l.take 4)
 have hle:256 ^ (l.take 4).length≤256 ^ 4:=Nat.pow_le_pow_right (by decide) (by rw [List.length_take];omega);exact Nat.lt_of_lt_of_le this hle
theorem qm3 (b:List UInt8):genF b<4294967296:=qti _
theorem qpv (b:List UInt8):qb2 b<4294967296:=qti _
theorem qael (b:List UInt8):qeu b<4294967296:=qti _
theorem qaib (b:List UInt8):cntF b<65536:=by
 have:=qkw ((b.drop 18).take 2)
 have hle:256 ^ ((b.drop 18).take 2).length≤256 ^ 2:=Nat.pow_le_pow_right (by decide) (by rw [List.length_take];omega);exact Nat.lt_of_lt_of_le this hle
theorem qaak (h:Hd) (i m:Nat) (r:List UInt8) (hh:h.1<4294967296):genF (qdu h i m r)=h.1:=by
 have e:(qdu h i m r).take 4=le4 h.1:=by simp [qdu,hdB,le4]
 unfold genF;rw [e,qkb _ hh]
theorem qgi (h:Hd) (i m:Nat) (r:List UInt8) (hh:h.2.2.1<4294967296):qb2 (qdu h i m r)=h.2.2.1:=by
 have e:((qdu h i m r).drop 8).take 4=le4 h.2.2.1:=by simp [qdu,hdB,le4]
 unfold qb2;rw [e,qkb _ hh]
theorem qoh (h:Hd) (i m:Nat) (r:List UInt8) (hh:h.2.2.2<4294967296):qeu (qdu h i m r)=h.2.2.2:=by
 have e:((qdu h i m r).drop 12).take 4=le4 h.2.2.2:=by simp [qdu,hdB,le4]
 unfold qeu;rw [e,qkb _ hh]
theorem qru (h:Hd) (i m:Nat) (r:List UInt8) (hm:m<65536):cntF (qdu h i m r)=m:=by
 have e:((qdu h i m r).drop 18).take 2=le2 m:=by simp [qdu,hdB,le4,le2]
 unfold cntF;rw [e,qaia _ hm]
theorem qaal (h:Hd) (i m:Nat) (r:List UInt8):sizB (qdu h i m r)=min r.length 107:=by
 have e:(qdu h i m r).getD 20 0=UInt8.ofNat (min r.length 107):=by simp [qdu,hdB,le4,le2]
 unfold sizB;rw [e,UInt8.toNat_ofNat'];omega
theorem qwx (h:Hd) (i m:Nat) (r:List UInt8):qk7 (qdu h i m r)=r.take 107:=by
 have e:(qdu h i m r).drop 21=padP r:=by simp [qdu,hdB,le4,le2]
 unfold qk7;rw [e,qaal]
 unfold padP;rw [Nat.min_eq_left (by omega:min r.length 107≤107),List.take_append_of_le_length (by rw [List.length_take];omega),List.take_take]
 by_cases hl:r.length≤107
 ·rw [List.take_of_length_le (by omega),List.take_of_length_le hl]
 ·congr 1;omega
def qgz (l:List (List UInt8)):List UInt8:=(l.map qk7).flatten
theorem qwy (l:List (List UInt8)) (b:List UInt8):qgz (l++[b])=qgz l++qk7 b:=by simp [qgz]
theorem qoi (l:List (List UInt8)) (k:Nat) (h:k<l.length):qgz (l.take (k+1))=qgz (l.take k)++qk7 l[k]:=by
 rw [List.take_succ_eq_append_getElem h,qwy]
theorem qrv (b:List UInt8):(qk7 b).length≤107:=by unfold qk7;rw [List.length_take];omega
theorem qrw:∀l:List (List UInt8),(qgz l).length≤107*l.length
 | []=>by simp [qgz]
 | b::l=>by
  have:=qrw l
  have hb:=qrv b;have e:qgz (b::l)=qk7 b++qgz l:=rfl
  rw [e,List.length_append,List.length_cons];omega
theorem qiw (h:Hd) (r:List UInt8):∀k,k≤(rowB h r).length→qgz ((rowB h r).take k)=r.take (107*k)
 | 0,_=>by simp [qgz]
 | k+1,hk=>by
  rw [qoi _ k (by omega),qiw h r k (by omega),qfv,qwx];rw [show 107*(k+1)=107*k+107 by omega,List.take_add]
theorem qaam (h:Hd) (r:List UInt8):qgz (rowB h r)=r:=by
 have:=qiw h r (rowB h r).length (Nat.le_refl _)
 rw [List.take_length] at this;rw [this,List.take_of_length_le]
 rw [qdv];unfold qe9;omega
abbrev Op:=List UInt8 × Nat × Nat
def recO (l:List (List UInt8)):List UInt8:=qgz (l.take (cntF (l.headD [])))
def hitO (g n p:Nat) (l:List (List UInt8)):Bool:=
 decide (l≠[]∧cntF (l.headD [])≤l.length∧frmE (g,n,qb2 (l.headD []),p) (recO l)=0∧rowB (g,n,qb2 (l.headD []),p) (recO l)=l.take (cntF (l.headD [])))
def opn (g n p:Nat) (l:List (List UInt8)):Op:=if hitO g n p l then (recO l,qb2 (l.headD []),cntF (l.headD [])) else ([],0,0)
theorem qg0 (g n p:Nat) (l:List (List UInt8)):hitO g n p l=true↔l≠[]∧cntF (l.headD [])≤l.length∧frmE (g,n,qb2 (l.headD []),p) (recO l)=0∧rowB (g,n,qb2 (l.headD []),p) (recO l)=l.take (cntF (l.headD [])):=by
 simp [hitO]
theorem qja {g n p:Nat} {l:List (List UInt8)} (h:hitO g n p l=true):opn g n p l=(recO l,qb2 (l.headD []),cntF (l.headD [])):=by unfold opn;rw [if_pos h]
theorem qm4 {g n p:Nat} {l:List (List UInt8)} (h:hitO g n p l=false):opn g n p l=([],0,0):=by unfold opn;rw [h];rfl
theorem qaan {g n p:Nat} {l:List (List UInt8)} (h:hitO g n p l=true):cntF (l.headD [])=qe9 (recO l).length∧1≤cntF (l.headD [])∧cntF (l.headD [])≤l.length:=by
 obtain ⟨h1,h2,h3,h4⟩:=(qg0 g n p l).1 h
 have:=congrArg List.length h4
 rw [qdv,List.length_take,Nat.min_eq_left h2] at this;exact ⟨this.symm,by rw [←this];exact qh2 _,h2⟩
theorem qu1 (g n p:Nat) (l:List (List UInt8)):(opn g n p l).2.2=0↔hitO g n p l=false:=by
 cases h:hitO g n p l
 ·rw [qm4 h];simp
 ·rw [qja h];have:=(qaan h).2.1
  constructor
  ·intro e;have e':cntF (l.headD [])=0:=e;omega
  ·intro e;cases e
theorem qix (g n p:Nat) (l:List (List UInt8)):(opn g n p l).2.2≤l.length:=by
 cases h:hitO g n p l
 ·rw [qm4 h];exact Nat.zero_le _
 ·rw [qja h];exact (qaan h).2.2
theorem qjy (g n p:Nat) (l:List (List UInt8)):(opn g n p l).2.1<4294967296:=by
 cases h:hitO g n p l
 ·rw [qm4 h];show (0:Nat)<_;omega
 ·rw [qja h];exact qpv _
theorem qaao (a l:List (List UInt8)) (h:0<a.length):(a++l).headD []=a[0]:=by
 cases a with
 | nil=>simp at h
 | cons x t=>rfl
theorem qaic {g n p s:Nat} {r:List UInt8} (l:List (List UInt8)) (hs:s<4294967296) (he:frmE (g,n,s,p) r=0):hitO g n p (rowB (g,n,s,p) r++l)=true∧recO (rowB (g,n,s,p) r++l)=r∧qb2 ((rowB (g,n,s,p) r++l).headD [])=s∧cntF ((rowB (g,n,s,p) r++l).headD [])=qe9 r.length:=by
 have hl:=qdv (g,n,s,p) r;have hp:=qh2 r.length;have hle:=qjx r.length (qaai he).2.2
 have h0:0<(rowB (g,n,s,p) r).length:=by omega
 have hd:(rowB (g,n,s,p) r++l).headD []=(rowB (g,n,s,p) r)[0]:=qaao _ _ h0
 have e1:qb2 ((rowB (g,n,s,p) r++l).headD [])=s:=by rw [hd,qfv];exact qgi _ _ _ _ hs
 have e2:cntF ((rowB (g,n,s,p) r++l).headD [])=qe9 r.length:=by rw [hd,qfv];exact qru _ _ _ _ (by omega)
 have e3:(rowB (g,n,s,p) r++l).take (qe9 r.length)=rowB (g,n,s,p) r:=by rw [←hl,List.take_left]
 have e4:recO (rowB (g,n,s,p) r++l)=r:=by unfold recO;rw [e2,e3,qaam]
 refine ⟨?_,e4,e1,e2⟩;rw [qg0,e1,e2,e4,e3];refine ⟨?_, ?_,he,rfl⟩
 ·intro e;have:=congrArg List.length e;rw [List.length_append,List.length_nil] at this;omega
 ·rw [List.length_append];omega
theorem qaap {g n p s:Nat} {r:List UInt8} (l:List (List UInt8)) (hs:s<4294967296) (he:frmE (g,n,s,p) r=0):opn g n p (rowB (g,n,s,p) r++l)=(r,s,(rowB (g,n,s,p) r).length):=by
 obtain ⟨h1,h2,h3,h4⟩:=qaic l hs he;rw [qja h1,h2,h3,h4,qdv]
theorem qu2 {g n p:Nat} {l:List (List UInt8)} (h:(opn g n p l).2.2≠0):frmE (g,n,(opn g n p l).2.1,p) (opn g n p l).1=0∧rowB (g,n,(opn g n p l).2.1,p) (opn g n p l).1=l.take (opn g n p l).2.2:=by
 cases hh:hitO g n p l
 ·exact absurd ((qu1 g n p l).2 hh) h
 ·obtain ⟨h1,h2,h3,h4⟩:=(qg0 g n p l).1 hh
  rw [qja hh];exact ⟨h3,h4⟩
theorem qko {g n p:Nat} {l:List (List UInt8)} (hg:g<4294967296) (hp:p<4294967296) (h:(opn g n p l).2.2≠0) (j:Nat) (hj:j<(opn g n p l).2.2) (hjl:j<l.length):genF l[j]=g∧qb2 l[j]=(opn g n p l).2.1∧qeu l[j]=p:=by
 obtain ⟨h1,h2⟩:=qu2 h;have hlen:=congrArg List.length h2;rw [List.length_take,Nat.min_eq_left (qix g n p l)] at hlen
 have hj':j<(rowB (g,n,(opn g n p l).2.1,p) (opn g n p l).1).length:=by omega
 have e:l[j]=(rowB (g,n,(opn g n p l).2.1,p) (opn g n p l).1)[j]:=by
  simp only [h2,List.getElem_take]
 rw [e,qfv];exact ⟨qaak _ _ _ _ hg,qgi _ _ _ _ (qjy g n p l),qoh _ _ _ _ hp⟩
theorem qu3 {g n p:Nat} {l m:List (List UInt8)} (h:(opn g n p l).2.2≠0) (hm:(opn g n p l).2.2≤m.length) (he:m.take (opn g n p l).2.2=l.take (opn g n p l).2.2):opn g n p m=opn g n p l:=by
 obtain ⟨h1,h2⟩:=qu2 h
 have e:m=rowB (g,n,(opn g n p l).2.1,p) (opn g n p l).1++m.drop (opn g n p l).2.2:=by rw [h2,←he,List.take_append_drop]
 have hlen:(rowB (g,n,(opn g n p l).2.1,p) (opn g n p l).1).length=(opn g n p l).2.2:=by rw [h2,List.length_take,Nat.min_eq_left (qix g n p l)]
 rw [e,qaap _ (qjy g n p l) h1,hlen]
end Go.Proofs.YtnmbbpdhjkaidaaGreat
