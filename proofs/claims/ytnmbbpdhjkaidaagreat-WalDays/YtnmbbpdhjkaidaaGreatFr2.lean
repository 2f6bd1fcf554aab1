/-
  What frame's count, part and begun do.
-/
import Derived.Test.YtnmbbpdhjkaidaaGreatMathFr
import Derived.Test.YtnmbbpdhjkaidaaGreatFsFn6
set_option maxHeartbeats 2000000
set_option maxRecDepth 100000
namespace Go.Proofs.YtnmbbpdhjkaidaaGreat
open Go.RowKit
set_option linter.all false
def qbi (g:Nat):Nat→Nat→Nat→List (List UInt8)→List Op
 | 0,_,_,_=>[]
 | f+1,n,p,l=>if (opn g n p l).2.2=0 then [] else opn g n p l::qbi g f (n+1) (opn g n p l).2.1 (l.drop (opn g n p l).2.2)
def sumO:List Op→Nat
 | []=>0
 | o::S=>o.2.2+sumO S
def endO:Nat→List Op→Nat
 | p,[]=>p
 | _,o::S=>endO o.2.1 S
theorem qfa (o:Op):∀S:List Op,sumO (S++[o])=sumO S+o.2.2
 | []=>by simp [sumO]
 | a::S=>by simp only [List.cons_append,sumO,qfa o S];omega
theorem qh3 (o:Op):∀(p:Nat) (S:List Op),endO p (S++[o])=o.2.1
 | _,[]=>rfl
 | _,a::S=>qh3 o _ S
def logO (g:Nat) (l:List (List UInt8)):List Op:=qbi g (l.length+1) 1 0 l
theorem qjz (g:Nat):∀(f n p:Nat) (l:List (List UInt8)),sumO (qbi g f n p l)≤l.length∧(qbi g f n p l).length≤sumO (qbi g f n p l)
 | 0,_,_,_=>⟨Nat.zero_le _,Nat.le_refl _⟩
 | f+1,n,p,l=>by
  unfold qbi
  split
  ·exact ⟨Nat.zero_le _,Nat.le_refl _⟩
  ·rename_i h
   obtain ⟨h1,h2⟩:=qjz g f (n+1) (opn g n p l).2.1 (l.drop (opn g n p l).2.2);have h3:=qix g n p l;rw [List.length_drop] at h1
   simp only [sumO,List.length_cons]
   omega
theorem qoj (g:Nat):∀(f n p:Nat) (l:List (List UInt8)),l.length<f→
  (opn g (n+(qbi g f n p l).length) (endO p (qbi g f n p l)) (l.drop (sumO (qbi g f n p l)))).2.2=0
 | 0,_,_,_,h=>by omega
 | f+1,n,p,l,h=>by
  unfold qbi
  split
  ·rename_i h0;simpa [endO,sumO] using h0
  ·rename_i h0
   have h3:=qix g n p l;have ih:=qoj g f (n+1) (opn g n p l).2.1 (l.drop (opn g n p l).2.2) (by rw [List.length_drop];omega)
   simp only [List.length_cons,endO,sumO]
   rw [List.drop_drop] at ih;rw [show n+((qbi g f (n+1) (opn g n p l).2.1 (l.drop (opn g n p l).2.2)).length+1)=n+1+(qbi g f (n+1) (opn g n p l).2.1 (l.drop (opn g n p l).2.2)).length by omega];exact ih
theorem qj0 (g:Nat):∀(f n p:Nat) (l:List (List UInt8)),p<4294967296→endO p (qbi g f n p l)<4294967296
 | 0,_,_,_,h=>h
 | f+1,n,p,l,h=>by
  unfold qbi
  split
  ·exact h
  ·exact qj0 g f _ _ _ (qjy g n p l)
theorem qm5 (g:Nat):∀(f n p:Nat) (l m:List (List UInt8)),m.take (sumO (qbi g f n p l))=l.take (sumO (qbi g f n p l))→
  qbi g f n p m=qbi g f n p l++qbi g (f - (qbi g f n p l).length) (n+(qbi g f n p l).length) (endO p (qbi g f n p l)) (m.drop (sumO (qbi g f n p l)))
 | 0,_,_,_,_,_=>rfl
 | f+1,n,p,l,m,h=>by
  by_cases h0:(opn g n p l).2.2=0
  ·have e:qbi g (f+1) n p l=[]:=by unfold qbi;rw [if_pos h0]
   rw [e]
   simp [endO,sumO]
  ·have e:qbi g (f+1) n p l=opn g n p l::qbi g f (n+1) (opn g n p l).2.1 (l.drop (opn g n p l).2.2):=by
    rw [qbi,if_neg h0]
   rw [e] at h ⊢
   simp only [sumO] at h
   obtain ⟨S,hS⟩:∃S,S=qbi g f (n+1) (opn g n p l).2.1 (l.drop (opn g n p l).2.2):=⟨_,rfl⟩;rw [←hS] at h ⊢;have hle:=qix g n p l
   have hsum:sumO S≤(l.drop (opn g n p l).2.2).length:=by rw [hS];exact (qjz g f _ _ _).1
   rw [List.length_drop] at hsum
   have hml:(opn g n p l).2.2+sumO S≤m.length:=by
    have:=congrArg List.length h
    rw [List.length_take,List.length_take] at this;omega
   have h1:m.take (opn g n p l).2.2=l.take (opn g n p l).2.2:=by
    have:=congrArg (List.take (opn g n p l).2.2) h
    rw [List.take_take,List.take_take,Nat.min_eq_left (by omega)] at this;exact this
   have h2:(m.drop (opn g n p l).2.2).take (sumO S)=(l.drop (opn g n p l).2.2).take (sumO S):=by
    have:=congrArg (List.drop (opn g n p l).2.2) h
    rw [List.drop_take,List.drop_take] at this
    simpa using this
   have ho:opn g n p m=opn g n p l:=qu3 h0 (by omega) h1;have ih:=qm5 g f (n+1) (opn g n p l).2.1 (l.drop (opn g n p l).2.2) (m.drop (opn g n p l).2.2) (by rw [←hS];exact h2);rw [←hS,List.drop_drop] at ih
   have em:qbi g (f+1) n p m=opn g n p l::qbi g f (n+1) (opn g n p l).2.1 (m.drop (opn g n p l).2.2):=by
    rw [qbi,ho,if_neg h0]
   rw [em,ih]
   simp only [List.length_cons,endO,sumO,List.cons_append]
   rw [show f+1 - (S.length+1)=f - S.length by omega,show n+(S.length+1)=n+1+S.length by omega]
def gmax (g m:Nat) (b:List UInt8):Nat:=if genF b=g then max m (max (qb2 b) (qeu b)) else m
def qb7 (g:Nat) (l:List (List UInt8)):Nat:=l.foldl (gmax g) 0
def qcz (l:List (List UInt8)):Nat:=l.foldl (fun m b=>max m (genF b)) 0
theorem qu4 (g:Nat):∀(l:List (List UInt8)) (m:Nat),m≤l.foldl (gmax g) m∧∀b∈l,genF b=g→qb2 b≤l.foldl (gmax g) m∧qeu b≤l.foldl (gmax g) m
 | [],m=>⟨Nat.le_refl _,by simp⟩
 | a::l,m=>by
  obtain ⟨h1,h2⟩:=qu4 g l (gmax g m a)
  have h3:m≤gmax g m a:=by unfold gmax;split<;>omega
  refine ⟨Nat.le_trans h3 h1,fun b hb hg=>?_⟩
  rcases List.mem_cons.1 hb with rfl | hb
  ·have h4:qb2 b≤gmax g m b∧qeu b≤gmax g m b:=by unfold gmax;rw [if_pos hg];omega
   exact ⟨Nat.le_trans h4.1 h1,Nat.le_trans h4.2 h1⟩
  ·exact h2 b hb hg
theorem qu5 (g:Nat) (l:List (List UInt8)) (j:Nat) (hj:j<l.length) (hg:genF l[j]=g):qb2 l[j]≤qb7 g l∧qeu l[j]≤qb7 g l:=
 (qu4 g l 0).2 _ (List.getElem_mem hj) hg
theorem qok (g:Nat):∀(l:List (List UInt8)) (m:Nat),(∀b∈l,genF b≠g)→l.foldl (gmax g) m=m
 | [],_,_=>rfl
 | a::l,m,h=>by
  have e:gmax g m a=m:=by unfold gmax;rw [if_neg (h a (by simp))]
  rw [List.foldl_cons,e]
  exact qok g l m fun b hb=>h b (by simp [hb])
theorem qaaq:∀(l:List (List UInt8)) (m:Nat),m≤l.foldl (fun m b=>max m (genF b)) m∧∀b∈l,genF b≤l.foldl (fun m b=>max m (genF b)) m
 | [],m=>⟨Nat.le_refl _,by simp⟩
 | a::l,m=>by
  obtain ⟨h1,h2⟩:=qaaq l (max m (genF a));refine ⟨by simp only [List.foldl_cons];exact Nat.le_trans (Nat.le_max_left _ _) h1,fun b hb=>?_⟩
  simp only [List.foldl_cons]
  rcases List.mem_cons.1 hb with rfl | hb
  ·exact Nat.le_trans (Nat.le_max_right _ _) h1
  ·exact h2 b hb
theorem qpw (g:Nat):∀(l:List (List UInt8)) (m:Nat),m<4294967296→l.foldl (gmax g) m<4294967296
 | [],_,h=>h
 | a::l,m,h=>by
  refine qpw g l _ ?_
  have:=qpv a
  have:=qael a
  unfold gmax;split<;>omega
theorem qtj:∀(l:List (List UInt8)) (m:Nat),m<4294967296→l.foldl (fun m b=>max m (genF b)) m<4294967296
 | [],_,h=>h
 | a::l,m,h=>qtj l _ (by have:=qm3 a;show max m (genF a)<_;omega)
theorem qaar (l:List (List UInt8)) (g:Nat) (hg:g<4294967296) (h:∀b∈l,genF b≠g):logO g l=[]∧qb7 g (l.drop (sumO (logO g l)))=0:=by
 have e:logO g l=[]:=by
  unfold logO qbi
  split
  ·rfl
  ·rename_i h0
   have hle:=qix g 1 0 l
   have hl:0<l.length:=by omega
   exact absurd (qko hg (by omega) h0 0 (by omega) hl).1 (h _ (List.getElem_mem hl))
 refine ⟨e, ?_⟩;rw [e]
 exact qok g _ 0 fun b hb=>h b (List.mem_of_mem_drop hb)
theorem qaas {g n L G salt K:Nat} {m m':List (List UInt8)} (hg:g<4294967296) (hL:L<4294967296) (h0:(opn g n L m).2.2=0) (hlen:m'.length=m.length)
  (h2:∀j (h:j<m.length),m'[j]'(by omega)=m[j]∨G<qb2 (m'[j]'(by omega)))
  (h3:∀j (h:j<m.length),genF m[j]=g→qb2 m[j]≤G)
  (h4:∀h:0<m.length,m'[0]'(by omega)=m[0]∨(G<salt∧qb2 (m'[0]'(by omega))=salt∧cntF (m'[0]'(by omega))=K∧∃j,∃h:j<m.length,j<K∧m'[j]'(by omega)=m[j])):
  (opn g n L m').2.2=0:=by
 by_cases hk:(opn g n L m').2.2=0
 ·exact hk
 ·exfalso
  have hle:=qix g n L m'
  have hpos:0<m.length:=by omega
  have hpos':0<m'.length:=by omega
  have ha:=fun j hj hjl=>qko hg hL hk j hj hjl
  have hs0:qb2 (m'[0]'hpos')=(opn g n L m').2.1:=(ha 0 (by omega) hpos').2.1
  rcases h4 hpos with e | ⟨hG,hs,hc,j,hj,hjK,e⟩
  ·have hs1:(opn g n L m').2.1≤G:=by
    rw [←hs0,e];exact h3 0 hpos (by rw [←e];exact (ha 0 (by omega) hpos').1)
   have et:m.take (opn g n L m').2.2=m'.take (opn g n L m').2.2:=by
    refine List.ext_getElem (by simp [hlen]) fun j ha1 hb1=>?_
    rw [List.getElem_take,List.getElem_take];rw [List.length_take] at ha1
    have hjm:j<m.length:=by omega
    rcases h2 j hjm with e' | e'
    ·exact e'.symm
    ·have:=(ha j (by omega) (by omega)).2.1
     omega
   have:=qu3 hk (by omega) et
   rw [this] at h0;exact hk h0
  ·have hd:m'.headD []=m'[0]'hpos':=by
    cases m' with
    | nil=>simp at hpos'
    | cons a t=>rfl
   have hcnt:(opn g n L m').2.2=K:=by
    cases hh:hitO g n L m'
    ·exact absurd ((qu1 g n L m').2 hh) hk
    ·rw [qja hh,hd];exact hc
   have hb:=ha j (by omega) (by omega);rw [e] at hb
   have:=h3 j hj hb.1
   have h5:=hb.2.1;omega
def layN (l:List (List UInt8)) (at0:Nat) (over:List (List UInt8)) (keep:List Bool):Nat→List (List UInt8)
 | 0=>l
 | i+1=>if keep.getD i false then (layN l at0 over keep i).set (at0+i) (over.getD i []) else layN l at0 over keep i
def layL (l:List (List UInt8)) (at0:Nat) (over:List (List UInt8)) (keep:List Bool):List (List UInt8):=layN l at0 over keep over.length
theorem qlk (l:List (List UInt8)) (at0:Nat) (over:List (List UInt8)) (keep:List Bool):∀k,(layN l at0 over keep k).length=l.length
 | 0=>rfl
 | k+1=>by
  unfold layN
  split
  ·rw [List.length_set,qlk l at0 over keep k]
  ·exact qlk l at0 over keep k
theorem qu6 (l:List (List UInt8)) (at0:Nat) (over:List (List UInt8)) (keep:List Bool):∀(k j:Nat) (h:j<l.length),(layN l at0 over keep k)[j]'(by rw [qlk];exact h)=if at0≤j∧j - at0<k∧keep.getD (j - at0) false=true then over.getD (j - at0) [] else l[j]
 | 0,j,h=>by rw [if_neg (by omega)];rfl
 | k+1,j,h=>by
  have ih:=qu6 l at0 over keep k j h
  by_cases hk:keep.getD k false=true
  ·have e:layN l at0 over keep (k+1)=(layN l at0 over keep k).set (at0+k) (over.getD k []):=by rw [layN,if_pos hk]
   simp only [e,List.getElem_set]
   by_cases hj:at0+k=j
   ·subst hj
    rw [if_pos rfl,Nat.add_sub_cancel_left,if_pos ⟨by omega,by omega,hk⟩]
   ·rw [if_neg hj,ih]
    by_cases hc:at0≤j∧j - at0<k∧keep.getD (j - at0) false=true
    ·rw [if_pos hc,if_pos ⟨hc.1,by omega,hc.2.2⟩]
    ·rw [if_neg hc,if_neg (by rintro ⟨a,b,c⟩;exact hc ⟨a,by omega,c⟩)]
  ·have e:layN l at0 over keep (k+1)=layN l at0 over keep k:=by rw [layN,if_neg hk]
   simp only [e,ih]
   by_cases hc:at0≤j∧j - at0<k∧keep.getD (j - at0) false=true
   ·rw [if_pos hc,if_pos ⟨hc.1,by omega,hc.2.2⟩]
   ·rw [if_neg hc,if_neg ?_]
    rintro ⟨a,b,c⟩;refine hc ⟨a, ?_,c⟩
    by_cases hjk:j - at0=k
    ·rw [hjk] at c;exact absurd c hk
    ·omega
theorem qca (l:List (List UInt8)) (at0:Nat) (over:List (List UInt8)) (keep:List Bool):(layL l at0 over keep).length=l.length:=qlk _ _ _ _ _
theorem qea (l:List (List UInt8)) (at0:Nat) (over:List (List UInt8)) (keep:List Bool) (j:Nat) (h:j<l.length) (h':j<(layL l at0 over keep).length):(layL l at0 over keep)[j]=if at0≤j∧j - at0<over.length∧keep.getD (j - at0) false=true then over.getD (j - at0) [] else l[j]:=qu6 l at0 over keep over.length j h
theorem qaat (l:List (List UInt8)) (at0:Nat) (over:List (List UInt8)) (keep:List Bool):(layL l at0 over keep).take at0=l.take at0:=by
 refine List.ext_getElem (by simp [qca]) fun j ha hb=>?_
 rw [List.getElem_take,List.getElem_take];rw [List.length_take] at hb;rw [qea l at0 over keep j (by omega),if_neg (by omega)]
theorem qaau (l:List (List UInt8)) (at0:Nat) (over:List (List UInt8)) (keep:List Bool):(layL l at0 over keep).drop at0=layL (l.drop at0) 0 over keep:=by
 refine List.ext_getElem (by simp [qca]) fun j ha hb=>?_
 rw [List.getElem_drop];rw [qca,List.length_drop] at hb;rw [qea l at0 over keep (at0+j) (by omega),qea _ 0 over keep j (by rw [List.length_drop];omega)]
 simp only [Nat.add_sub_cancel_left,Nat.sub_zero,List.getElem_drop]
 by_cases hc:j<over.length∧keep.getD j false=true
 ·rw [if_pos ⟨by omega,hc⟩,if_pos ⟨by omega,hc⟩]
 ·rw [if_neg (fun h=>hc h.2),if_neg (fun h=>hc h.2)]
def allK (keep:List Bool) (n:Nat):Bool:=(List.range n).all fun i=>keep.getD i false
theorem qpx (keep:List Bool) (n:Nat):allK keep n=true↔∀i,i<n→keep.getD i false=true:=by
 simp [allK,List.all_eq_true]
theorem qaem {keep:List Bool} {n:Nat} (h:allK keep n=false):∃i,i<n∧keep.getD i false=false:=by
 refine Classical.byContradiction fun hc=>?_
 have:allK keep n=true:=(qpx keep n).2 fun i hi=>by
  cases hk:keep.getD i false
  ·exact absurd ⟨i,hi,hk⟩ hc
  ·rfl
 rw [this] at h;cases h
theorem qaen {m over:List (List UInt8)} {keep:List Bool} (h:allK keep over.length=true) (hl:over.length≤m.length):layL m 0 over keep=over++m.drop over.length:=by
 refine List.ext_getElem (by simp [qca];omega) fun j ha hb=>?_
 rw [qca] at ha;rw [qea m 0 over keep j ha]
 simp only [Nat.sub_zero]
 by_cases hj:j<over.length
 ·rw [if_pos ⟨by omega,hj,(qpx _ _).1 h j hj⟩,List.getElem_append_left hj]
  simp [List.getD,List.getElem?_eq_getElem hj]
 ·rw [if_neg (fun h=>hj h.2.1),List.getElem_append_right (by omega),List.getElem_drop]
  congr 1;omega
theorem qaeo {g n L G salt:Nat} {m Q over:List (List UInt8)} {keep:List Bool} {r:List UInt8} (hg:g<4294967296) (hL:L<4294967296) (hs:salt<4294967296) (h0:(opn g n L m).2.2=0) (hr:r.length≤16384)
  (hov:over=rowB (g,n,salt,L) r++Q) (hQ:∀b∈Q,G<qb2 b) (hG:G<salt) (hl:(rowB (g,n,salt,L) r).length≤m.length)
  (h3:∀j (h:j<m.length),genF m[j]=g→qb2 m[j]≤G) (hk:allK keep (rowB (g,n,salt,L) r).length=false):(opn g n L (layL m 0 over keep)).2.2=0:=by
 have hlen:=qca m 0 over keep;have hP:=qdv (g,n,salt,L) r;have hpos:=qh2 r.length;have hnl:=qjx r.length hr
 have hget:∀j (h:j<m.length),(layL m 0 over keep)[j]'(by omega)=if j<over.length∧keep.getD j false=true then over.getD j [] else m[j]:=by
  intro j h
  have:=qea m 0 over keep j h (by omega)
  simp only [Nat.sub_zero,Nat.zero_le,true_and] at this
  exact this
 have hPs:∀j,j<(rowB (g,n,salt,L) r).length→over.getD j []=qdu (g,n,salt,L) j (qe9 r.length) (r.drop (107*j)):=by
  intro j hj;rw [hov,List.getD,List.getElem?_append_left hj,List.getElem?_eq_getElem hj,qfv];rfl
 have hnew:∀j,j<over.length→G<qb2 (over.getD j []):=by
  intro j hj
  by_cases hjp:j<(rowB (g,n,salt,L) r).length
  ·rw [hPs j hjp,qgi _ _ _ _ hs];exact hG
  ·rw [hov,List.getD,List.getElem?_append_right (by omega)]
   rw [hov,List.length_append] at hj;rw [List.getElem?_eq_getElem (by omega)];exact hQ _ (List.getElem_mem _)
 refine qaas (G:=G) (salt:=salt) (K:=qe9 r.length) hg hL h0 hlen ?_ h3 ?_
 ·intro j h
  rw [hget j h]
  by_cases hc:j<over.length∧keep.getD j false=true
  ·rw [if_pos hc];exact .inr (hnew j hc.1)
  ·rw [if_neg hc];exact .inl rfl
 ·intro h
  rw [hget 0 h]
  by_cases hc:0<over.length∧keep.getD 0 false=true
  ·rw [if_pos hc]
   right
   obtain ⟨i,hi,hki⟩:=qaem hk;rw [hPs 0 (by omega)];refine ⟨hG,qgi _ _ _ _ hs,qru _ _ _ _ (by omega),i,by omega,by omega, ?_⟩;rw [hget i (by omega),if_neg (by rw [hki];simp)]
  ·rw [if_neg hc];exact .inl rfl
theorem qwz {g n s G:Nat} {t:List (List UInt8)} (hg:g<4294967296) (hs:s<4294967296) (hG:G<s) (h3:∀j (h:j<t.length),genF t[j]=g→qeu t[j]≤G):(opn g n s t).2.2=0:=by
 by_cases hk:(opn g n s t).2.2=0
 ·exact hk
 ·exfalso
  have hle:=qix g n s t
  have hpos:0<t.length:=by omega
  obtain ⟨a,b,c⟩:=qko hg hs hk 0 (by omega) hpos
  have:=h3 0 hpos a
  omega
theorem qkp {g f n p:Nat} {l:List (List UInt8)} (h:(opn g n p l).2.2=0):qbi g f n p l=[]:=by
 cases f with
 | zero=>rfl
 | succ f=>rw [qbi,if_pos h]
theorem qaep {g:Nat} {l:List (List UInt8)} {salt:Nat} {r:List UInt8} {keep:List Bool} (hg:g<4294967296) (hs:salt<4294967296) (h1:endO 0 (logO g l)<salt) (h2:qb7 g (l.drop (sumO (logO g l)))<salt)
  (he:frmE (g,(logO g l).length+1,salt,endO 0 (logO g l)) r=0) (hl:(rowB (g,(logO g l).length+1,salt,endO 0 (logO g l)) r).length≤l.length - sumO (logO g l)):
  logO g (layL l (sumO (logO g l)) (rowB (g,(logO g l).length+1,salt,endO 0 (logO g l)) r) keep)=if allK keep (rowB (g,(logO g l).length+1,salt,endO 0 (logO g l)) r).length then logO g l++[(r,salt,(rowB (g,(logO g l).length+1,salt,endO 0 (logO g l)) r).length)] else logO g l:=by
 have hlen:=qca l (sumO (logO g l)) (rowB (g,(logO g l).length+1,salt,endO 0 (logO g l)) r) keep;have hag:=qm5 g (l.length+1) 1 0 l (layL l (sumO (logO g l)) (rowB (g,(logO g l).length+1,salt,endO 0 (logO g l)) r) keep) (qaat _ _ _ _);have hst:=qoj g (l.length+1) 1 0 l (by omega);have hsu:=qjz g (l.length+1) 1 0 l;have hL:=qj0 g (l.length+1) 1 0 l (by omega);have eL:logO g l=qbi g (l.length+1) 1 0 l:=rfl
 have eM:logO g (layL l (sumO (logO g l)) (rowB (g,(logO g l).length+1,salt,endO 0 (logO g l)) r) keep)=qbi g (l.length+1) 1 0 (layL l (sumO (logO g l)) (rowB (g,(logO g l).length+1,salt,endO 0 (logO g l)) r) keep):=by unfold logO;rw [qca]
 rw [eM,hag];rw [←eL] at hst hsu hL ⊢;rw [qaau,Nat.add_comm 1 (logO g l).length] at *;obtain ⟨t,ht⟩:∃t,t=l.drop (sumO (logO g l)):=⟨_,rfl⟩;rw [←ht] at hst h2 ⊢
 have htl:t.length=l.length - sumO (logO g l):=by rw [ht,List.length_drop]
 have h3:∀j (h:j<t.length),genF t[j]=g→qb2 t[j]≤qb7 g t∧qeu t[j]≤qb7 g t:=fun j h hgj=>qu5 g t j h hgj
 generalize endO 0 (logO g l)=L at *;generalize hn:(logO g l).length=N at *;generalize hG:qb7 g t=G at *;have hfu:∃f,l.length+1 - N=f+1:=⟨l.length - N,by omega⟩;obtain ⟨f,hf⟩:=hfu;rw [hf]
 by_cases hk:allK keep (rowB (g,N+1,salt,L) r).length=true
 ·rw [if_pos hk,qaen hk (by omega)]
  have ho:=qaap (t.drop (rowB (g,N+1,salt,L) r).length) hs he
  congr 1
  rw [qbi,ho,if_neg (by have:=qdv (g,N+1,salt,L) r;have:=qh2 r.length;show ¬(rowB (g,N+1,salt,L) r).length=0;omega)]
  congr 1
  rw [List.drop_left];refine qkp (qwz (G:=G) hg hs h2 fun j hj hgj=>?_);rw [List.getElem_drop] at hgj ⊢;rw [List.length_drop] at hj;exact (h3 _ (by omega) hgj).2
 ·rw [if_neg hk]
  have:=qaeo (Q:=[]) (keep:=keep) (G:=G) (over:=rowB (g,N+1,salt,L) r) hg hL hs hst (qaai he).2.2 (by simp) (by simp) h2 (by omega) (fun j h e=>(h3 j h e).1) (by simpa using hk)
  rw [qkp this,List.append_nil]
theorem qaav {w:World} {a:Option Addr} {n c:Nat} {l:List UInt8} (h:Rd w (.slice a n c) l) (j:Nat) (hj:j<l.length):∃g off,a=some ⟨g,off,none⟩∧w.cell? ⟨g,off+j,none⟩=some (.int .u8 (l[j]).toNat):=by
 rcases h with ⟨rfl,_⟩ | ⟨b,off,c',e,h1,h2,h3⟩
 ·simp at hj
 ·simp only [Value.slice.injEq] at e
  obtain ⟨rfl,rfl,rfl⟩:=e;exact ⟨b,off,rfl,h3 j hj⟩
theorem qk0 (data l:List UInt8) (o k m:Nat) (hk:k<l.length) (hkm:k<m) (hm:m≤l.length) (hf:o+m≤data.length):(splice data o (l.take k)).set (o+k) l[k]=splice data o (l.take (k+1)):=by
 have:=qmb data (l.take m) o k (by rw [List.length_take];omega) (by rw [List.length_take];omega)
 simp only [List.take_take,List.getElem_take,Nat.min_eq_left (show k≤m by omega),Nat.min_eq_left (show k+1≤m by omega)] at this
 exact this
theorem qu7 (x j:Nat) (m:Nat) (hm:m=8*j) (h:j<4):∃bk:UInt8,IntKind.u8.wrap ((x:Int) / 2 ^ m)=(bk.toNat:Int)∧bk=(le4 x)[j]'(by rw [qbd];exact h):=⟨_,qt7 x j m hm h,rfl⟩
theorem qiq (base g n c k m cp:Nat) (l:List UInt8) (x:Nat) (w:World) (hown:OwB w base (.slice (some ⟨g,0,none⟩) n c) l) (hm:m≤4) (hk:k+m≤l.length) (hx:x<4294967296):
  Calls Tryz.prog 189 #[.slice (some ⟨g,k,none⟩) m cp,.int .u32 x] w fun e w'=>e=.returned (.tuple #[])∧w.grownBy w' (some g)∧OwB w' base (.slice (some ⟨g,0,none⟩) n c) (splice l k ((le4 x).take m)):=by
 have HOWN:=hide hown;have HKL:=hide hk;have HX:=hide hx;clear hown hk hx
 go_enter Tryz.func189,Tryz.ntmps189
 go_wp2
 go_loopw [7] (fun i wr=>∃j:Nat,j≤m∧i=.int .i64 j∧Hid (OwB wr base (.slice (some ⟨g,0,none⟩) n c) (splice l k ((le4 x).take j)))∧w.grownBy wr (some g)) (fun i _=>m - (intOf i).toNat)
 case atStart=>
  refine ⟨0,Nat.zero_le _,rfl, ?_,World.grownBy.refl _ _⟩
  show OwB _ _ _ _
  have e:splice l k ((le4 x).take 0)=l:=by simp [splice]
  rw [e];exact HOWN.out
 case round=>
  obtain ⟨j,hj,rfl,ho,hgr⟩:=hrel
  by_cases hlt:j<m
  ·have hlt':(j:Int)<m:=by omega
   have hl4:j<4:=by omega
   obtain ⟨q,em,a1,a2,a3⟩:=qhw hl4;obtain ⟨bk,hbk,ebk⟩:=qu7 x j q em hl4;clear em;have hfz:=ho.out.fz (k+j);have hcl:=ho.out.at (k+j) (by rw [length_splice];have:=HKL.out;omega;have:=HKL.out;simp [qbd];omega);obtain ⟨o1,o2⟩:=ho.out.stored (k+j) bk;rw [ebk,qk0 _ _ _ _ m (by rw [qbd];exact hl4) hlt (by rw [qbd];exact hm) HKL.out,←ebk] at o1;have HO1:=hide o1;have HG:=hide (qbb hgr o2);clear o1 o2 ho hgr ebk;go_wp2;go_roundw
   case rel=>exact ⟨j+1,by omega,rfl,HO1,HG.out⟩
   case measure=>simp only [intOf];omega
  ·have hd:decide ((j:Int)<m)=false:=by simpa using (by omega:¬(j:Int)<m)
   obtain rfl:j=m:=by omega
   have HO:=hide ho.out;clear ho;go_wp2
   refine bodyPost_end (v:=.tuple #[]) ?_ rfl ⟨rfl,hgr,HO.out⟩
   simp [results,Tryz.results189,go_sem]
theorem qh4 (a:Option Addr) (n c:Nat) (b:List UInt8) (w:World) (hrd:Rd w (.slice a n c) b) (hn:n=b.length) (hb:b.length≤4):
  Calls Tryz.prog 188 #[.slice a n c] w fun e w'=>e=.returned (.int .u32 (un4 b))∧w'=w:=by
 have hn4:n≤4:=by omega
 have HN:=hide hn;have HR:=hide hrd;clear hrd hn
 go_enter Tryz.func188,Tryz.ntmps188
 go_wp2
 go_loop [2,7] (fun t i=>∃j:Nat,j≤n∧i=.int .i64 j∧t=.int .u32 (un4 (b.take j))) (fun _ i=>n - (intOf i).toNat)
 case atStart=>exact ⟨0,Nat.zero_le _,rfl,rfl⟩
 case round=>
  obtain ⟨j,hj,rfl,rfl⟩:=hrel
  by_cases hlt:j<n
  ·have hlt':(j:Int)<n:=by omega
   have hl4:j<4:=by omega
   obtain ⟨m,em,a1,a2,a3⟩:=qhw hl4;have EM:=hide em;clear em
   have hjb:j<b.length:=by rw [←HN.out];exact hlt
   obtain ⟨g,off,rfl,hc⟩:=qaav HR.out j hjb;obtain ⟨u,hu⟩:∃u:Nat,u=un4 (b.take j):=⟨_,rfl⟩;have HU:=hide (show un4 (b.take (j+1))=u+(b[j]).toNat*256 ^ j by rw [hu];exact qt1 b j hjb)
   have HL:=hide (show u<256 ^ j by
    rw [hu];have:=qkw (b.take j);rwa [List.length_take,Nat.min_eq_left (by omega)] at this)
   rw [←hu];obtain ⟨y,hy⟩:∃y:UInt8,y=b[j]:=⟨_,rfl⟩;rw [←hy] at hc;have HY:=hide hy;clear hu hy;go_wp2
   go_round
   case rel=>exact ⟨j+1,by omega,rfl,by rw [HU.out,←qafn j m u _ EM.out hl4 HL.out,←HY.out]⟩
   case measure=>simp only [intOf];omega
  ·have hd:decide ((j:Int)<n)=false:=by simpa using (by omega:¬(j:Int)<n)
   have HE:=hide (show b.take j=b by rw [List.take_of_length_le (by rw [←HN.out];omega)])
   obtain rfl:j=n:=by omega
   go_wp2;go_ret;refine ⟨?_,rfl⟩;rw [HE.out];rfl
theorem qw0 (n:Nat) (w:World) (hn:n≤1000000):
  Calls Tryz.prog 138 #[.int .i64 n] w fun e w'=>e=.returned (.int .i64 (qe9 n))∧w'=w:=by
 have h1:wrap64 ((n:Int)+107)=((n+107:Nat):Int):=by unfold wrap64;omega
 have h2:wrap64 (((n+107:Nat):Int) - 1)=((n+106:Nat):Int):=by unfold wrap64;omega
 have h3:((n+106:Nat):Int).tdiv 107=(((n+106) / 107:Nat):Int):=by rw [Int.tdiv_eq_ediv_of_nonneg (by omega)];omega
 have HE:=hide (show ((qe9 n:Nat):Int)=max 1 (((n+106) / 107:Nat):Int) by unfold qe9;omega)
 go_enter Tryz.func138,Tryz.ntmps138
 clear h1 h2 h3;go_wp2
 ·go_ret
  refine ⟨?_,rfl⟩;rw [HE.out]
  show Ending.returned (.int .i64 _)=_
  congr 2
  omega
 ·go_ret
  refine ⟨?_,rfl⟩;rw [HE.out]
  show Ending.returned (.int .i64 _)=_
  congr 2
  omega
theorem qaeq (g off c:Nat) (b:List UInt8) (w:World) (hrd:Rd w (.slice (some ⟨g,off,none⟩) 128 c) b) (hb:b.length=128):
  Calls Tryz.prog 135 #[.slice (some ⟨g,off,none⟩) 128 c] w fun e w'=>e=.returned (.int .i64 (cntF b))∧w'=w:=by
 obtain ⟨_,_,e, -,hnc,hr⟩:=qkv hrd 18 20 (by omega) (by omega);cases e;have HR:=hide hr;have HL:=hide (show ((b.drop 18).take 2).length=2 by rw [List.length_take,List.length_drop];omega);obtain ⟨u,hu⟩:∃u,u=cntF b:=⟨_,rfl⟩
 have hlt:u<65536:=by rw [hu];exact qaib b
 have HC:=hide (show un4 ((b.drop 18).take 2)=u from hu.symm);rw [←hu]
 have hw:IntKind.i64.wrap (u:Int)=u:=by rw [IntKind.wrap_i64];omega
 clear hrd hr hu
 have h2:¬18=c:=by omega
 have h3:(20:Int)≤c:=by omega
 have h4:20≤c:=by omega
 go_enter Tryz.func135,Tryz.ntmps135
 go_wp2_with fail
 refine (qh4 (some ⟨g,off+18,none⟩) 2 (c - 18) _ _ HR.out HL.out.symm (by rw [HL.out];omega)).mono ?_
 rintro e w1 ⟨rfl,rfl⟩;rw [HC.out];go_wp2;go_ret;exact ⟨rfl,rfl⟩
theorem qh5 {w:World} {g off n c:Nat} {l:List UInt8} (h:Rd w (.slice (some ⟨g,off,none⟩) n c) l) (k m:Nat) (hk:k+m≤l.length) (hl:k<l.length):Rd w (.slice (some ⟨g,off+k,none⟩) m (c - k)) ((l.drop k).take m):=by
 rcases h with ⟨rfl,_⟩ | ⟨b,o,c',e,h1,h2,h3⟩
 ·simp at hl
 ·simp only [Value.slice.injEq,Option.some.injEq,Addr.mk.injEq] at e
  obtain ⟨⟨rfl,rfl, -⟩,rfl,rfl⟩:=e
  have hml:((l.drop k).take m).length=m:=by rw [List.length_take,List.length_drop];omega
  refine .inr ⟨g,off+k,c - k,by rw [hml],by omega,by omega,fun j hj=>?_⟩;rw [hml] at hj
  have:=h3 (k+j) (by omega)
  rw [Nat.add_assoc,this,List.getElem_take,List.getElem_drop]
theorem qaid (g off c:Nat) (b:List UInt8) (w:World) (hrd:Rd w (.slice (some ⟨g,off,none⟩) 128 c) b) (hb:b.length=128):
  Calls Tryz.prog 136 #[.slice (some ⟨g,off,none⟩) 128 c] w fun e w'=>e=.returned (.slice (some ⟨g,off+21,none⟩) (min (sizB b) 107) (c - 21))∧Below w.heap.size w w':=by
 obtain ⟨_,_,e, -,hnc,hr⟩:=qkv hrd 21 128 (by omega) (by omega);cases e;obtain ⟨_,_,e,hc⟩:=qaav hrd 20 (by omega);cases e
 have hy:(b[20]'(by omega)).toNat=sizB b:=by unfold sizB;rw [List.getD,List.getElem?_eq_getElem (by omega)];rfl
 rw [hy] at hc
 have hs:sizB b<256:=by rw [←hy];exact UInt8.toNat_lt _
 generalize sizB b=s at *;clear hrd hr hy hb
 have h2:¬21=c:=by omega
 have h3:(128:Int)≤c:=by omega
 have h4:128≤c:=by omega
 have hw:IntKind.i64.wrap (s:Int)=s:=by rw [IntKind.wrap_i64];omega
 by_cases hl:s≤107
 ·rw [Nat.min_eq_left (by omega)]
  have hl2:s≤c - 21:=by omega
  have hl3:¬107<(s:Int):=by omega
  go_enter Tryz.func136,Tryz.ntmps136
  go_wp2
  go_quiet (fail)
  go_wp2;go_ret;exact ⟨rfl,below_drewN (Below.refl _ _) _⟩
 ·rw [Nat.min_eq_right (by omega)]
  have hl1:107<(s:Int):=by omega
  have hl2:107≤c - 21:=by omega
  go_enter Tryz.func136,Tryz.ntmps136
  go_wp2
  go_quiet (fail)
  go_wp2;go_ret;exact ⟨rfl,below_drewN (Below.refl _ _) _⟩
def begV (b:List UInt8):Value:=.agg #[.int .u32 (genF b),.int .u32 (numB b),.int .u32 (qb2 b),.int .u32 (qeu b)]
def begC (b:List UInt8) (j:Nat):Array Value:=#[.int .u32 (if 0<j then (genF b:Int) else 0),.int .u32 (if 1<j then (numB b:Int) else 0),.int .u32 (if 2<j then (qb2 b:Int) else 0),.int .u32 (if 3<j then (qeu b:Int) else 0)]
theorem qde {w:World} {B:Nat} {t:TypeId} {x0 x1 x2 x3:Value} (h:w.heap[B]? =some (.cells #[x0,x1,x2,x3] t (0,0))):w.cell? ⟨B,0,none⟩=some x0∧w.cell? ⟨B,1,none⟩=some x1∧w.cell? ⟨B,2,none⟩=some x2∧w.cell? ⟨B,3,none⟩=some x3∧∀j,w.frozen? ⟨B,j,none⟩=false:=
 ⟨by simp [World.cell?,h],by simp [World.cell?,h],by simp [World.cell?,h],by simp [World.cell?,h],fun j=>frozen_of_row w _ j _ _ h⟩
theorem qll {w:World} {B:Nat} {t:TypeId} {y1 y2 y3 y4:Value} (u1 u2 u3 u4:Value) (h:w.heap[B]? =some (.cells #[y1,y2,y3,y4] t (0,0))):
  ∃ws,(((w.setCell ⟨B,0,none⟩ u1).setCell ⟨B,1,none⟩ u2).setCell ⟨B,2,none⟩ u3).setCell ⟨B,3,none⟩ u4=ws∧ws.heap[B]? =some (.cells #[u1,u2,u3,u4] t (0,0))∧w.grownBy ws (some B):=
 ⟨_,rfl,heap_setCell_same _ _ 3 _ _ _ (heap_setCell_same _ _ 2 _ _ _ (heap_setCell_same _ _ 1 _ _ _ (heap_setCell_same _ _ 0 _ _ _ h))),qbb (qbb (qbb (qak w _ _) (qak _ _ _)) (qak _ _ _)) (qak _ _ _)⟩
theorem qm6 (g off c:Nat) (b:List UInt8) (w:World) (hrd:Rd w (.slice (some ⟨g,off,none⟩) 128 c) b) (hb:b.length=128):
  Calls Tryz.prog 134 #[.slice (some ⟨g,off,none⟩) 128 c] w fun e w'=>e=.returned (begV b)∧Below w.heap.size w w':=by
 obtain ⟨_,_,e, -,hnc, -⟩:=qkv hrd 0 128 (by omega) (by omega);cases e;have HR:=hide hrd;have HB:=hide hb;clear hrd hb
 go_enter Tryz.func134,Tryz.ntmps134
 go_wp2
 go_loopw [4] (fun i wr=>∃j:Nat,j≤4∧i=.int .i64 j∧Hid (wr.heap[w.heap.size]? =some (.cells (begC b j) 198 (0,0)))∧Below w.heap.size w wr) (fun i _=>4 - (intOf i).toNat)
 case atStart=>exact ⟨0,Nat.zero_le _,rfl,hide (heap_alloc_new w _),(Below.refl _ _).alloc (Nat.le_refl _) _⟩
 case round=>
  obtain ⟨j,hj,rfl,hcs,hbel⟩:=hrel
  by_cases hlt:j<4
  ·obtain rfl | rfl | rfl | rfl:j=0∨j=1∨j=2∨j=3:=by omega
   ·have hsub:Rd wr (.slice (some ⟨g,off+0,none⟩) 4 (c - 0)) ((b.drop 0).take 4):=qh5 (HR.out.carry hbel) 0 4 (by rw [HB.out];omega) (by rw [HB.out];omega)
    have HS:=hide hsub;have HL:=hide (show ((b.drop 0).take 4).length=4 by rw [List.length_take,List.length_drop,HB.out];rfl);obtain ⟨q0,q1,q2,q3,qf⟩:=qde hcs.out;have hfz:=qf 0;have hst:=heap_setCell_same wr w.heap.size 0 _ _ (.int .u32 (genF b)) hcs.out;have HST:=hide (show (wr.setCell ⟨w.heap.size,0,none⟩ (.int .u32 (genF b))).heap[w.heap.size]? =some (.cells (begC b 1) 198 (0,0)) from hst);have HBL:=hide (show Below w.heap.size w (wr.setCell ⟨w.heap.size,0,none⟩ (.int .u32 (genF b))) from hbel.grown (qak wr _ _) hbel.size (fun k hk=>by cases hk;exact Nat.le_refl _));have HE:=hide (show un4 ((b.drop 0).take 4)=genF b from rfl)
    have hc0:¬0=c:=by omega
    have hc1:0≤c:=by omega
    have hc2:4≤c - 0:=by omega
    clear hsub hst hcs hbel hlt hj
    go_wp2_with fail
    refine (qh4 (some ⟨g,off+0,none⟩) 4 (c - 0) _ _ HS.out HL.out.symm (by rw [HL.out];omega)).mono ?_
    rintro e w1 ⟨rfl,rfl⟩;rw [HE.out];go_wp2;go_roundw
    case rel=>exact ⟨1,by omega,rfl,HST,HBL.out⟩
    case measure=>simp only [intOf];omega
   ·have hsub:Rd wr (.slice (some ⟨g,off+4,none⟩) 4 (c - 4)) ((b.drop 4).take 4):=qh5 (HR.out.carry hbel) 4 4 (by rw [HB.out];omega) (by rw [HB.out];omega)
    have HS:=hide hsub;have HL:=hide (show ((b.drop 4).take 4).length=4 by rw [List.length_take,List.length_drop,HB.out];rfl);obtain ⟨q0,q1,q2,q3,qf⟩:=qde hcs.out;have hfz:=qf 1;have hst:=heap_setCell_same wr w.heap.size 1 _ _ (.int .u32 (numB b)) hcs.out;have HST:=hide (show (wr.setCell ⟨w.heap.size,1,none⟩ (.int .u32 (numB b))).heap[w.heap.size]? =some (.cells (begC b 2) 198 (0,0)) from hst);have HBL:=hide (show Below w.heap.size w (wr.setCell ⟨w.heap.size,1,none⟩ (.int .u32 (numB b))) from hbel.grown (qak wr _ _) hbel.size (fun k hk=>by cases hk;exact Nat.le_refl _));have HE:=hide (show un4 ((b.drop 4).take 4)=numB b from rfl)
    have hc0:¬4=c:=by omega
    have hc1:4≤c:=by omega
    have hc2:4≤c - 4:=by omega
    clear hsub hst hcs hbel hlt hj
    go_wp2_with fail
    refine (qh4 (some ⟨g,off+4,none⟩) 4 (c - 4) _ _ HS.out HL.out.symm (by rw [HL.out];omega)).mono ?_
    rintro e w1 ⟨rfl,rfl⟩;rw [HE.out];go_wp2;go_roundw
    case rel=>exact ⟨2,by omega,rfl,HST,HBL.out⟩
    case measure=>simp only [intOf];omega
   ·have hsub:Rd wr (.slice (some ⟨g,off+8,none⟩) 4 (c - 8)) ((b.drop 8).take 4):=qh5 (HR.out.carry hbel) 8 4 (by rw [HB.out];omega) (by rw [HB.out];omega)
    have HS:=hide hsub;have HL:=hide (show ((b.drop 8).take 4).length=4 by rw [List.length_take,List.length_drop,HB.out];rfl);obtain ⟨q0,q1,q2,q3,qf⟩:=qde hcs.out;have hfz:=qf 2;have hst:=heap_setCell_same wr w.heap.size 2 _ _ (.int .u32 (qb2 b)) hcs.out;have HST:=hide (show (wr.setCell ⟨w.heap.size,2,none⟩ (.int .u32 (qb2 b))).heap[w.heap.size]? =some (.cells (begC b 3) 198 (0,0)) from hst);have HBL:=hide (show Below w.heap.size w (wr.setCell ⟨w.heap.size,2,none⟩ (.int .u32 (qb2 b))) from hbel.grown (qak wr _ _) hbel.size (fun k hk=>by cases hk;exact Nat.le_refl _));have HE:=hide (show un4 ((b.drop 8).take 4)=qb2 b from rfl)
    have hc0:¬8=c:=by omega
    have hc1:8≤c:=by omega
    have hc2:4≤c - 8:=by omega
    clear hsub hst hcs hbel hlt hj
    go_wp2_with fail
    refine (qh4 (some ⟨g,off+8,none⟩) 4 (c - 8) _ _ HS.out HL.out.symm (by rw [HL.out];omega)).mono ?_
    rintro e w1 ⟨rfl,rfl⟩;rw [HE.out];go_wp2;go_roundw
    case rel=>exact ⟨3,by omega,rfl,HST,HBL.out⟩
    case measure=>simp only [intOf];omega
   ·have hsub:Rd wr (.slice (some ⟨g,off+12,none⟩) 4 (c - 12)) ((b.drop 12).take 4):=qh5 (HR.out.carry hbel) 12 4 (by rw [HB.out];omega) (by rw [HB.out];omega)
    have HS:=hide hsub;have HL:=hide (show ((b.drop 12).take 4).length=4 by rw [List.length_take,List.length_drop,HB.out];rfl);obtain ⟨q0,q1,q2,q3,qf⟩:=qde hcs.out;have hfz:=qf 3;have hst:=heap_setCell_same wr w.heap.size 3 _ _ (.int .u32 (qeu b)) hcs.out;have HST:=hide (show (wr.setCell ⟨w.heap.size,3,none⟩ (.int .u32 (qeu b))).heap[w.heap.size]? =some (.cells (begC b 4) 198 (0,0)) from hst);have HBL:=hide (show Below w.heap.size w (wr.setCell ⟨w.heap.size,3,none⟩ (.int .u32 (qeu b))) from hbel.grown (qak wr _ _) hbel.size (fun k hk=>by cases hk;exact Nat.le_refl _));have HE:=hide (show un4 ((b.drop 12).take 4)=qeu b from rfl)
    have hc0:¬12=c:=by omega
    have hc1:12≤c:=by omega
    have hc2:4≤c - 12:=by omega
    clear hsub hst hcs hbel hlt hj
    go_wp2_with fail
    refine (qh4 (some ⟨g,off+12,none⟩) 4 (c - 12) _ _ HS.out HL.out.symm (by rw [HL.out];omega)).mono ?_
    rintro e w1 ⟨rfl,rfl⟩;rw [HE.out];go_wp2;go_roundw
    case rel=>exact ⟨4,by omega,rfl,HST,HBL.out⟩
    case measure=>simp only [intOf];omega
  ·have hd:decide ((j:Int)<4)=false:=by simpa using (by omega:¬(j:Int)<4)
   obtain rfl:j=4:=by omega
   have hc4:wr.heap[w.heap.size]? =some (.cells #[.int .u32 (genF b),.int .u32 (numB b),.int .u32 (qb2 b),.int .u32 (qeu b)] 198 (0,0)):=hcs.out
   obtain ⟨ws,ews,hws,hgs⟩:=qll (.int .u32 (genF b)) (.int .u32 (numB b)) (.int .u32 (qb2 b)) (.int .u32 (qeu b)) hc4;obtain ⟨q0,q1,q2,q3,qf⟩:=qde hc4;obtain ⟨p0,p1,p2,p3, -⟩:=qde hws;have HW:=hide ews;have hbs:Below w.heap.size w ws:=hbel.grown hgs hbel.size (fun k hk=>by cases hk;exact Nat.le_refl _);clear hcs hws hgs ews hc4;go_wp2;rw [HW.out]
   refine bodyPost_ret (v:=.agg #[.int .u32 (genF b),.int .u32 (numB b),.int .u32 (qb2 b),.int .u32 (qeu b)]) ?_ rfl ⟨(rfl:Ending.returned (.agg #[.int .u32 (genF b),.int .u32 (numB b),.int .u32 (qb2 b),.int .u32 (qeu b)])=.returned (begV b)),hbs⟩
   simp [results,Tryz.results134,go_sem, *]
end Go.Proofs.YtnmbbpdhjkaidaaGreat
