/-
  Plain mathematics of logs: the records of some blocks, one behind the other; blocks that are written where a log ends.
-/
import Derived.Test.YtnmbbpdhjkaidaaGreatMathFr
namespace Go.Proofs.YtnmbbpdhjkaidaaGreat
open Go.RowKit
set_option linter.all false
def qbc (g:Nat):Nat→Nat→Nat→List (List UInt8)→List Op
 | 0,_,_,_=>[]
 | f+1,n,p,l=>if (opn g n p l).2.2=0 then [] else opn g n p l::qbc g f (n+1) (opn g n p l).2.1 (l.drop (opn g n p l).2.2)
def sumO:List Op→Nat
 | []=>0
 | o::S=>o.2.2+sumO S
def endO:Nat→List Op→Nat
 | p,[]=>p
 | _,o::S=>endO o.2.1 S
theorem qeo (o:Op):∀S:List Op,sumO (S++[o])=sumO S+o.2.2
 | []=>by simp [sumO]
 | a::S=>by simp only [List.cons_append,sumO,qeo o S];omega
theorem qgi (o:Op):∀(p:Nat) (S:List Op),endO p (S++[o])=o.2.1
 | _,[]=>rfl
 | _,a::S=>qgi o _ S
def logO (g:Nat) (l:List (List UInt8)):List Op:=qbc g (l.length+1) 1 0 l
theorem qia (g:Nat):∀(f n p:Nat) (l:List (List UInt8)),sumO (qbc g f n p l)≤l.length∧(qbc g f n p l).length≤sumO (qbc g f n p l)
 | 0,_,_,_=>⟨Nat.zero_le _,Nat.le_refl _⟩
 | f+1,n,p,l=>by
  unfold qbc
  split
  ·exact ⟨Nat.zero_le _,Nat.le_refl _⟩
  ·rename_i h
   obtain ⟨h1,h2⟩:=qia g f (n+1) (opn g n p l).2.1 (l.drop (opn g n p l).2.2);have h3:=qg9 g n p l;rw [List.length_drop] at h1
   simp only [sumO,List.length_cons]
   omega
theorem qm6 (g:Nat):∀(f n p:Nat) (l:List (List UInt8)),l.length<f→
  (opn g (n+(qbc g f n p l).length) (endO p (qbc g f n p l)) (l.drop (sumO (qbc g f n p l)))).2.2=0
 | 0,_,_,_,h=>by omega
 | f+1,n,p,l,h=>by
  unfold qbc
  split
  ·rename_i h0;simpa [endO,sumO] using h0
  ·rename_i h0
   have h3:=qg9 g n p l;have ih:=qm6 g f (n+1) (opn g n p l).2.1 (l.drop (opn g n p l).2.2) (by rw [List.length_drop];omega)
   simp only [List.length_cons,endO,sumO]
   rw [List.drop_drop] at ih;rw [show n+((qbc g f (n+1) (opn g n p l).2.1 (l.drop (opn g n p l).2.2)).length+1)=n+1+(qbc g f (n+1) (opn g n p l).2.1 (l.drop (opn g n p l).2.2)).length by omega];exact ih
theorem qib (g:Nat):∀(f n p:Nat) (l:List (List UInt8)),p<4294967296→endO p (qbc g f n p l)<4294967296
 | 0,_,_,_,h=>h
 | f+1,n,p,l,h=>by
  unfold qbc
  split
  ·exact h
  ·exact qib g f _ _ _ (qh9 g n p l)
theorem qlm (g:Nat):∀(f n p:Nat) (l m:List (List UInt8)),m.take (sumO (qbc g f n p l))=l.take (sumO (qbc g f n p l))→
  qbc g f n p m=qbc g f n p l++qbc g (f - (qbc g f n p l).length) (n+(qbc g f n p l).length) (endO p (qbc g f n p l)) (m.drop (sumO (qbc g f n p l)))
 | 0,_,_,_,_,_=>rfl
 | f+1,n,p,l,m,h=>by
  by_cases h0:(opn g n p l).2.2=0
  ·have e:qbc g (f+1) n p l=[]:=by unfold qbc;rw [if_pos h0]
   rw [e]
   simp [endO,sumO]
  ·have e:qbc g (f+1) n p l=opn g n p l::qbc g f (n+1) (opn g n p l).2.1 (l.drop (opn g n p l).2.2):=by
    rw [qbc,if_neg h0]
   rw [e] at h ⊢
   simp only [sumO] at h
   obtain ⟨S,hS⟩:∃S,S=qbc g f (n+1) (opn g n p l).2.1 (l.drop (opn g n p l).2.2):=⟨_,rfl⟩;rw [←hS] at h ⊢;have hle:=qg9 g n p l
   have hsum:sumO S≤(l.drop (opn g n p l).2.2).length:=by rw [hS];exact (qia g f _ _ _).1
   rw [List.length_drop] at hsum
   have hml:(opn g n p l).2.2+sumO S≤m.length:=by
    have:=congrArg List.length h
    rw [List.length_take,List.length_take] at this;omega
   have h1:m.take (opn g n p l).2.2=l.take (opn g n p l).2.2:=by
    have:=congrArg (List.take (opn g n p l).2.2) h
    rw [List.take_take,List.take_take,Nat.min_eq_left (by omega)] at this;exact this
   have h2:(m.drop (opn g n p l).2.2).take (sumO S)=(l.drop (opn g n p l).2.2).take (sumO S):=by
    have:=congrArg (List.drop (opn g n p l).2.2) h
    rw [List.drop_take,List.drop_take] at this
    simpa using this
   have ho:opn g n p m=opn g n p l:=qtl h0 (by omega) h1;have ih:=qlm g f (n+1) (opn g n p l).2.1 (l.drop (opn g n p l).2.2) (m.drop (opn g n p l).2.2) (by rw [←hS];exact h2);rw [←hS,List.drop_drop] at ih
   have em:qbc g (f+1) n p m=opn g n p l::qbc g f (n+1) (opn g n p l).2.1 (m.drop (opn g n p l).2.2):=by
    rw [qbc,ho,if_neg h0]
   rw [em,ih]
   simp only [List.length_cons,endO,sumO,List.cons_append]
   rw [show f+1 - (S.length+1)=f - S.length by omega,show n+(S.length+1)=n+1+S.length by omega]
def gmax (g m:Nat) (b:List UInt8):Nat:=if genF b=g then max m (max (qbw b) (qeb b)) else m
def qb0 (g:Nat) (l:List (List UInt8)):Nat:=l.foldl (gmax g) 0
def qct (l:List (List UInt8)):Nat:=l.foldl (fun m b=>max m (genF b)) 0
theorem qtm (g:Nat):∀(l:List (List UInt8)) (m:Nat),m≤l.foldl (gmax g) m∧∀b∈l,genF b=g→qbw b≤l.foldl (gmax g) m∧qeb b≤l.foldl (gmax g) m
 | [],m=>⟨Nat.le_refl _,by simp⟩
 | a::l,m=>by
  obtain ⟨h1,h2⟩:=qtm g l (gmax g m a)
  have h3:m≤gmax g m a:=by unfold gmax;split<;>omega
  refine ⟨Nat.le_trans h3 h1,fun b hb hg=>?_⟩
  rcases List.mem_cons.1 hb with rfl | hb
  ·have h4:qbw b≤gmax g m b∧qeb b≤gmax g m b:=by unfold gmax;rw [if_pos hg];omega
   exact ⟨Nat.le_trans h4.1 h1,Nat.le_trans h4.2 h1⟩
  ·exact h2 b hb hg
theorem qtn (g:Nat) (l:List (List UInt8)) (j:Nat) (hj:j<l.length) (hg:genF l[j]=g):qbw l[j]≤qb0 g l∧qeb l[j]≤qb0 g l:=
 (qtm g l 0).2 _ (List.getElem_mem hj) hg
theorem qm7 (g:Nat):∀(l:List (List UInt8)) (m:Nat),(∀b∈l,genF b≠g)→l.foldl (gmax g) m=m
 | [],_,_=>rfl
 | a::l,m,h=>by
  have e:gmax g m a=m:=by unfold gmax;rw [if_neg (h a (by simp))]
  rw [List.foldl_cons,e]
  exact qm7 g l m fun b hb=>h b (by simp [hb])
theorem qyv:∀(l:List (List UInt8)) (m:Nat),m≤l.foldl (fun m b=>max m (genF b)) m∧∀b∈l,genF b≤l.foldl (fun m b=>max m (genF b)) m
 | [],m=>⟨Nat.le_refl _,by simp⟩
 | a::l,m=>by
  obtain ⟨h1,h2⟩:=qyv l (max m (genF a));refine ⟨by simp only [List.foldl_cons];exact Nat.le_trans (Nat.le_max_left _ _) h1,fun b hb=>?_⟩
  simp only [List.foldl_cons]
  rcases List.mem_cons.1 hb with rfl | hb
  ·exact Nat.le_trans (Nat.le_max_right _ _) h1
  ·exact h2 b hb
theorem qoh (g:Nat):∀(l:List (List UInt8)) (m:Nat),m<4294967296→l.foldl (gmax g) m<4294967296
 | [],_,h=>h
 | a::l,m,h=>by
  refine qoh g l _ ?_
  have:=qog a
  have:=qacc a
  unfold gmax;split<;>omega
theorem qr2:∀(l:List (List UInt8)) (m:Nat),m<4294967296→l.foldl (fun m b=>max m (genF b)) m<4294967296
 | [],_,h=>h
 | a::l,m,h=>qr2 l _ (by have:=qlk a;show max m (genF a)<_;omega)
theorem qyw (l:List (List UInt8)) (g:Nat) (hg:g<4294967296) (h:∀b∈l,genF b≠g):logO g l=[]∧qb0 g (l.drop (sumO (logO g l)))=0:=by
 have e:logO g l=[]:=by
  unfold logO qbc
  split
  ·rfl
  ·rename_i h0
   have hle:=qg9 g 1 0 l
   have hl:0<l.length:=by omega
   exact absurd (qiy hg (by omega) h0 0 (by omega) hl).1 (h _ (List.getElem_mem hl))
 refine ⟨e, ?_⟩;rw [e]
 exact qm7 g _ 0 fun b hb=>h b (List.mem_of_mem_drop hb)
theorem qyx {g n L G salt K:Nat} {m m':List (List UInt8)} (hg:g<4294967296) (hL:L<4294967296) (h0:(opn g n L m).2.2=0) (hlen:m'.length=m.length)
  (h2:∀j (h:j<m.length),m'[j]'(by omega)=m[j]∨G<qbw (m'[j]'(by omega)))
  (h3:∀j (h:j<m.length),genF m[j]=g→qbw m[j]≤G)
  (h4:∀h:0<m.length,m'[0]'(by omega)=m[0]∨(G<salt∧qbw (m'[0]'(by omega))=salt∧cntF (m'[0]'(by omega))=K∧∃j,∃h:j<m.length,j<K∧m'[j]'(by omega)=m[j])):
  (opn g n L m').2.2=0:=by
 by_cases hk:(opn g n L m').2.2=0
 ·exact hk
 ·exfalso
  have hle:=qg9 g n L m'
  have hpos:0<m.length:=by omega
  have hpos':0<m'.length:=by omega
  have ha:=fun j hj hjl=>qiy hg hL hk j hj hjl
  have hs0:qbw (m'[0]'hpos')=(opn g n L m').2.1:=(ha 0 (by omega) hpos').2.1
  rcases h4 hpos with e | ⟨hG,hs,hc,j,hj,hjK,e⟩
  ·have hs1:(opn g n L m').2.1≤G:=by
    rw [←hs0,e];exact h3 0 hpos (by rw [←e];exact (ha 0 (by omega) hpos').1)
   have et:m.take (opn g n L m').2.2=m'.take (opn g n L m').2.2:=by
    refine List.ext_getElem (by simp [hlen]) fun j ha1 hb1=>?_
    rw [List.getElem_take,List.getElem_take];rw [List.length_take] at ha1
    have hjm:j<m.length:=by omega
    rcases h2 j hjm with e' | e'
    ·exact e'.symm
    ·have:=(ha j (by omega) (by omega)).2.1
     omega
   have:=qtl hk (by omega) et
   rw [this] at h0;exact hk h0
  ·have hd:m'.headD []=m'[0]'hpos':=by
    cases m' with
    | nil=>simp at hpos'
    | cons a t=>rfl
   have hcnt:(opn g n L m').2.2=K:=by
    cases hh:hitO g n L m'
    ·exact absurd ((qtj g n L m').2 hh) hk
    ·rw [qhj hh,hd];exact hc
   have hb:=ha j (by omega) (by omega);rw [e] at hb
   have:=h3 j hj hb.1
   have h5:=hb.2.1;omega
def layN (l:List (List UInt8)) (at0:Nat) (over:List (List UInt8)) (keep:List Bool):Nat→List (List UInt8)
 | 0=>l
 | i+1=>if keep.getD i false then (layN l at0 over keep i).set (at0+i) (over.getD i []) else layN l at0 over keep i
def layL (l:List (List UInt8)) (at0:Nat) (over:List (List UInt8)) (keep:List Bool):List (List UInt8):=layN l at0 over keep over.length
theorem qj3 (l:List (List UInt8)) (at0:Nat) (over:List (List UInt8)) (keep:List Bool):∀k,(layN l at0 over keep k).length=l.length
 | 0=>rfl
 | k+1=>by
  unfold layN
  split
  ·rw [List.length_set,qj3 l at0 over keep k]
  ·exact qj3 l at0 over keep k
theorem qto (l:List (List UInt8)) (at0:Nat) (over:List (List UInt8)) (keep:List Bool):∀(k j:Nat) (h:j<l.length),(layN l at0 over keep k)[j]'(by rw [qj3];exact h)=if at0≤j∧j - at0<k∧keep.getD (j - at0) false=true then over.getD (j - at0) [] else l[j]
 | 0,j,h=>by rw [if_neg (by omega)];rfl
 | k+1,j,h=>by
  have ih:=qto l at0 over keep k j h
  by_cases hk:keep.getD k false=true
  ·have e:layN l at0 over keep (k+1)=(layN l at0 over keep k).set (at0+k) (over.getD k []):=by rw [layN,if_pos hk]
   simp only [e,List.getElem_set]
   by_cases hj:at0+k=j
   ·subst hj
    rw [if_pos rfl,Nat.add_sub_cancel_left,if_pos ⟨by omega,by omega,hk⟩]
   ·rw [if_neg hj,ih]
    by_cases hc:at0≤j∧j - at0<k∧keep.getD (j - at0) false=true
    ·rw [if_pos hc,if_pos ⟨hc.1,by omega,hc.2.2⟩]
    ·rw [if_neg hc,if_neg (by rintro ⟨a,b,c⟩;exact hc ⟨a,by omega,c⟩)]
  ·have e:layN l at0 over keep (k+1)=layN l at0 over keep k:=by rw [layN,if_neg hk]
   simp only [e,ih]
   by_cases hc:at0≤j∧j - at0<k∧keep.getD (j - at0) false=true
   ·rw [if_pos hc,if_pos ⟨hc.1,by omega,hc.2.2⟩]
   ·rw [if_neg hc,if_neg ?_]
    rintro ⟨a,b,c⟩;refine hc ⟨a, ?_,c⟩
    by_cases hjk:j - at0=k
    ·rw [hjk] at c;exact absurd c hk
    ·omega
theorem qb1 (l:List (List UInt8)) (at0:Nat) (over:List (List UInt8)) (keep:List Bool):(layL l at0 over keep).length=l.length:=qj3 _ _ _ _ _
theorem qdu (l:List (List UInt8)) (at0:Nat) (over:List (List UInt8)) (keep:List Bool) (j:Nat) (h:j<l.length) (h':j<(layL l at0 over keep).length):(layL l at0 over keep)[j]=if at0≤j∧j - at0<over.length∧keep.getD (j - at0) false=true then over.getD (j - at0) [] else l[j]:=qto l at0 over keep over.length j h
theorem qyy (l:List (List UInt8)) (at0:Nat) (over:List (List UInt8)) (keep:List Bool):(layL l at0 over keep).take at0=l.take at0:=by
 refine List.ext_getElem (by simp [qb1]) fun j ha hb=>?_
 rw [List.getElem_take,List.getElem_take];rw [List.length_take] at hb;rw [qdu l at0 over keep j (by omega),if_neg (by omega)]
theorem qyz (l:List (List UInt8)) (at0:Nat) (over:List (List UInt8)) (keep:List Bool):(layL l at0 over keep).drop at0=layL (l.drop at0) 0 over keep:=by
 refine List.ext_getElem (by simp [qb1]) fun j ha hb=>?_
 rw [List.getElem_drop];rw [qb1,List.length_drop] at hb;rw [qdu l at0 over keep (at0+j) (by omega),qdu _ 0 over keep j (by rw [List.length_drop];omega)]
 simp only [Nat.add_sub_cancel_left,Nat.sub_zero,List.getElem_drop]
 by_cases hc:j<over.length∧keep.getD j false=true
 ·rw [if_pos ⟨by omega,hc⟩,if_pos ⟨by omega,hc⟩]
 ·rw [if_neg (fun h=>hc h.2),if_neg (fun h=>hc h.2)]
def allK (keep:List Bool) (n:Nat):Bool:=(List.range n).all fun i=>keep.getD i false
theorem qoi (keep:List Bool) (n:Nat):allK keep n=true↔∀i,i<n→keep.getD i false=true:=by
 simp [allK,List.all_eq_true]
theorem qacd {keep:List Bool} {n:Nat} (h:allK keep n=false):∃i,i<n∧keep.getD i false=false:=by
 refine Classical.byContradiction fun hc=>?_
 have:allK keep n=true:=(qoi keep n).2 fun i hi=>by
  cases hk:keep.getD i false
  ·exact absurd ⟨i,hi,hk⟩ hc
  ·rfl
 rw [this] at h;cases h
theorem qace {m over:List (List UInt8)} {keep:List Bool} (h:allK keep over.length=true) (hl:over.length≤m.length):layL m 0 over keep=over++m.drop over.length:=by
 refine List.ext_getElem (by simp [qb1];omega) fun j ha hb=>?_
 rw [qb1] at ha;rw [qdu m 0 over keep j ha]
 simp only [Nat.sub_zero]
 by_cases hj:j<over.length
 ·rw [if_pos ⟨by omega,hj,(qoi _ _).1 h j hj⟩,List.getElem_append_left hj]
  simp [List.getD,List.getElem?_eq_getElem hj]
 ·rw [if_neg (fun h=>hj h.2.1),List.getElem_append_right (by omega),List.getElem_drop]
  congr 1;omega
theorem qacf {g n L G salt:Nat} {m Q over:List (List UInt8)} {keep:List Bool} {r:List UInt8} (hg:g<4294967296) (hL:L<4294967296) (hs:salt<4294967296) (h0:(opn g n L m).2.2=0) (hr:r.length≤16384)
  (hov:over=rowB (g,n,salt,L) r++Q) (hQ:∀b∈Q,G<qbw b) (hG:G<salt) (hl:(rowB (g,n,salt,L) r).length≤m.length)
  (h3:∀j (h:j<m.length),genF m[j]=g→qbw m[j]≤G) (hk:allK keep (rowB (g,n,salt,L) r).length=false):(opn g n L (layL m 0 over keep)).2.2=0:=by
 have hlen:=qb1 m 0 over keep;have hP:=qc7 (g,n,salt,L) r;have hpos:=qgh r.length;have hnl:=qh8 r.length hr
 have hget:∀j (h:j<m.length),(layL m 0 over keep)[j]'(by omega)=if j<over.length∧keep.getD j false=true then over.getD j [] else m[j]:=by
  intro j h
  have:=qdu m 0 over keep j h (by omega)
  simp only [Nat.sub_zero,Nat.zero_le,true_and] at this
  exact this
 have hPs:∀j,j<(rowB (g,n,salt,L) r).length→over.getD j []=qdj (g,n,salt,L) j (qea r.length) (r.drop (107*j)):=by
  intro j hj;rw [hov,List.getD,List.getElem?_append_left hj,List.getElem?_eq_getElem hj,qeu];rfl
 have hnew:∀j,j<over.length→G<qbw (over.getD j []):=by
  intro j hj
  by_cases hjp:j<(rowB (g,n,salt,L) r).length
  ·rw [hPs j hjp,qfc _ _ _ _ hs];exact hG
  ·rw [hov,List.getD,List.getElem?_append_right (by omega)]
   rw [hov,List.length_append] at hj;rw [List.getElem?_eq_getElem (by omega)];exact hQ _ (List.getElem_mem _)
 refine qyx (G:=G) (salt:=salt) (K:=qea r.length) hg hL h0 hlen ?_ h3 ?_
 ·intro j h
  rw [hget j h]
  by_cases hc:j<over.length∧keep.getD j false=true
  ·rw [if_pos hc];exact .inr (hnew j hc.1)
  ·rw [if_neg hc];exact .inl rfl
 ·intro h
  rw [hget 0 h]
  by_cases hc:0<over.length∧keep.getD 0 false=true
  ·rw [if_pos hc]
   right
   obtain ⟨i,hi,hki⟩:=qacd hk;rw [hPs 0 (by omega)];refine ⟨hG,qfc _ _ _ _ hs,qp8 _ _ _ _ (by omega),i,by omega,by omega, ?_⟩;rw [hget i (by omega),if_neg (by rw [hki];simp)]
  ·rw [if_neg hc];exact .inl rfl
theorem qvj {g n s G:Nat} {t:List (List UInt8)} (hg:g<4294967296) (hs:s<4294967296) (hG:G<s) (h3:∀j (h:j<t.length),genF t[j]=g→qeb t[j]≤G):(opn g n s t).2.2=0:=by
 by_cases hk:(opn g n s t).2.2=0
 ·exact hk
 ·exfalso
  have hle:=qg9 g n s t
  have hpos:0<t.length:=by omega
  obtain ⟨a,b,c⟩:=qiy hg hs hk 0 (by omega) hpos
  have:=h3 0 hpos a
  omega
theorem qiz {g f n p:Nat} {l:List (List UInt8)} (h:(opn g n p l).2.2=0):qbc g f n p l=[]:=by
 cases f with
 | zero=>rfl
 | succ f=>rw [qbc,if_pos h]
theorem qacg {g:Nat} {l:List (List UInt8)} {salt:Nat} {r:List UInt8} {keep:List Bool} (hg:g<4294967296) (hs:salt<4294967296) (h1:endO 0 (logO g l)<salt) (h2:qb0 g (l.drop (sumO (logO g l)))<salt)
  (he:frmE (g,(logO g l).length+1,salt,endO 0 (logO g l)) r=0) (hl:(rowB (g,(logO g l).length+1,salt,endO 0 (logO g l)) r).length≤l.length - sumO (logO g l)):
  logO g (layL l (sumO (logO g l)) (rowB (g,(logO g l).length+1,salt,endO 0 (logO g l)) r) keep)=if allK keep (rowB (g,(logO g l).length+1,salt,endO 0 (logO g l)) r).length then logO g l++[(r,salt,(rowB (g,(logO g l).length+1,salt,endO 0 (logO g l)) r).length)] else logO g l:=by
 have hlen:=qb1 l (sumO (logO g l)) (rowB (g,(logO g l).length+1,salt,endO 0 (logO g l)) r) keep;have hag:=qlm g (l.length+1) 1 0 l (layL l (sumO (logO g l)) (rowB (g,(logO g l).length+1,salt,endO 0 (logO g l)) r) keep) (qyy _ _ _ _);have hst:=qm6 g (l.length+1) 1 0 l (by omega);have hsu:=qia g (l.length+1) 1 0 l;have hL:=qib g (l.length+1) 1 0 l (by omega);have eL:logO g l=qbc g (l.length+1) 1 0 l:=rfl
 have eM:logO g (layL l (sumO (logO g l)) (rowB (g,(logO g l).length+1,salt,endO 0 (logO g l)) r) keep)=qbc g (l.length+1) 1 0 (layL l (sumO (logO g l)) (rowB (g,(logO g l).length+1,salt,endO 0 (logO g l)) r) keep):=by unfold logO;rw [qb1]
 rw [eM,hag];rw [←eL] at hst hsu hL ⊢;rw [qyz,Nat.add_comm 1 (logO g l).length] at *;obtain ⟨t,ht⟩:∃t,t=l.drop (sumO (logO g l)):=⟨_,rfl⟩;rw [←ht] at hst h2 ⊢
 have htl:t.length=l.length - sumO (logO g l):=by rw [ht,List.length_drop]
 have h3:∀j (h:j<t.length),genF t[j]=g→qbw t[j]≤qb0 g t∧qeb t[j]≤qb0 g t:=fun j h hgj=>qtn g t j h hgj
 generalize endO 0 (logO g l)=L at *;generalize hn:(logO g l).length=N at *;generalize hG:qb0 g t=G at *;have hfu:∃f,l.length+1 - N=f+1:=⟨l.length - N,by omega⟩;obtain ⟨f,hf⟩:=hfu;rw [hf]
 by_cases hk:allK keep (rowB (g,N+1,salt,L) r).length=true
 ·rw [if_pos hk,qace hk (by omega)]
  have ho:=qyu (t.drop (rowB (g,N+1,salt,L) r).length) hs he
  congr 1
  rw [qbc,ho,if_neg (by have:=qc7 (g,N+1,salt,L) r;have:=qgh r.length;show ¬(rowB (g,N+1,salt,L) r).length=0;omega)]
  congr 1
  rw [List.drop_left];refine qiz (qvj (G:=G) hg hs h2 fun j hj hgj=>?_);rw [List.getElem_drop] at hgj ⊢;rw [List.length_drop] at hj;exact (h3 _ (by omega) hgj).2
 ·rw [if_neg hk]
  have:=qacf (Q:=[]) (keep:=keep) (G:=G) (over:=rowB (g,N+1,salt,L) r) hg hL hs hst (qyn he).2.2 (by simp) (by simp) h2 (by omega) (fun j h e=>(h3 j h e).1) (by simpa using hk)
  rw [qiz this,List.append_nil]
end Go.Proofs.YtnmbbpdhjkaidaaGreat
