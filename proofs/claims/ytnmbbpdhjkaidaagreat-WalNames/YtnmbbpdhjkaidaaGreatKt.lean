/-
  What is read in rows of bytes, writes, acts, files and extents stays, where only variables of files on a disk, and rows of directories, are written.
-/
import Derived.Test.YtnmbbpdhjkaidaaGreatFr7
import Derived.Test.YtnmbbpdhjkaidaaGreatWal7
namespace Go.Proofs.YtnmbbpdhjkaidaaGreat
open Go.RowKit
set_option linter.all false
theorem qaf5 {f:Fsd} {s:List UInt8} {i:Int} {b:List UInt8} (h:(qcm f s i b).2=0):
  ∃j:Nat,i=j∧j<(qae f s).length∧qae (qcm f s i b).1 s=(qae f s).set j b∧okFs (qcm f s i b).1∧(qcm f s i b).1.2=f.2∧qaz f s=0∧qaz (qcm f s i b).1 s=0∧mny (qcm f s i b).1.1=mny f.1:=by
 obtain ⟨hok,d',e,ha,ho,hact⟩:=qyi h;obtain ⟨hokF,_,_,hs,hsF,_⟩:=qoe h;rw [e] at hokF hsF ⊢;obtain ⟨_,j,rfl,hj,hN⟩:=qyj hok ha;obtain ⟨hd,hm34,_,_⟩:=qaw hok;obtain ⟨o1,o2,_⟩:=qdf hd hact ho;have hbl:bloL (d',f.2) s=bloL f s:=(qhi (f:=f) (g:=(d',f.2)) rfl s).1;have hlF:=qc8 hsF;have hl:=qc8 hs;obtain ⟨_,L,hL⟩:=qcr hs
 have hnd:(bloL f s).Nodup:=by rw [(qdr hok hL).2.2.2.1];exact qgz hok hL
 refine ⟨j,rfl,by rw [hl];exact hj, ?_,hokF,rfl,hs,hsF,o2⟩;apply List.ext_getElem
 ·rw [List.length_set,hlF,hl,hbl]
 ·intro k h1 h2
  have hk:k<(bloL f s).length:=by rw [←hbl,←hlF];exact h1
  have hkf:k<(qae f s).length:=by rw [hl];exact hk
  rw [qg1 hsF h1 (by rw [hbl];exact hk),List.getElem_set]
  have eb:(bloL (d',f.2) s)[k]'(by rw [hbl];exact hk)=(bloL f s)[k]:=by simp only [hbl]
  rw [eb];have hr:=qcs hs _ (List.getElem_mem hk);obtain ⟨n,hn⟩:∃n:Nat,(bloL f s)[k]=n:=⟨((bloL f s)[k]).toNat,by omega⟩
  have hnt:((bloL f s)[k]).toNat=n:=by omega
  have hnm:n<mny f.1:=by omega
  have hw:=qfe hd hact ho hnm;rw [qcq o1 (by omega),qcq hd hnm,hN] at hw;rw [hnt]
  show nowD d' n=_
  rw [hw]
  by_cases hjk:j=k
  ·subst hjk
   rw [if_pos hn.symm,if_pos rfl]
  ·rw [if_neg hjk,if_neg,qg1 hs hkf hk,hnt]
   intro e9;exact hjk ((List.getElem_inj hnd).1 (e9.symm.trans hn.symm))
theorem qty:∀(l m:List (List UInt8)),(∀b∈l,b.length=128)→(∀b∈m,b.length=128)→l.flatten=m.flatten→l=m
 | [],[],_,_,_=>rfl
 | [],c::m,_,hm,h=>by
  have:=congrArg List.length h
  have hc:=hm c (List.mem_cons_self ..)
  simp [hc] at this
  omega
 | b::l,[],hl,_,h=>by
  have:=congrArg List.length h
  have hc:=hl b (List.mem_cons_self ..)
  simp [hc] at this
 | b::l,c::m,hl,hm,h=>by
  have hb:=hl b (List.mem_cons_self ..);have hc:=hm c (List.mem_cons_self ..);rw [List.flatten_cons,List.flatten_cons] at h;obtain ⟨h1,h2⟩:=List.append_inj h (by rw [hb,hc]);rw [h1,qty l m (fun x hx=>hl x (List.mem_cons_of_mem _ hx)) (fun x hx=>hm x (List.mem_cons_of_mem _ hx)) h2]
theorem qqm {f:Fsd} {s:List UInt8} (h:qaz f s=0):qhh f s=(qae f s).flatten:=by
 unfold qhh;rw [if_neg (fun e=>e h),qj6 h,List.flatMap]
theorem qzk {f g:Fsd} {s:List UInt8} (h1:qaz f s=0) (h2:qaz g s=0) (h:qhh f s=qhh g s):qae g s=qae f s:=by
 rw [qqm h1,qqm h2] at h;exact (qty _ _ qic qic h).symm
theorem qzl {f g:Fsd} {s:List UInt8} (h:Like f g []) (hs:qaz f s=0):qaz g s=0∧qae g s=qae f s:=by
 obtain ⟨hok,l,hl⟩:=qcr hs;obtain ⟨h1,h2,h3⟩:=h (s,l) hl (qab4 hok hl);exact ⟨h2,qzk h1 h2 h3⟩
theorem qzm {f g:Fsd} {s:List UInt8} (h1:qaz f s=0) (h2:qaz g s=0) (h:qae g s=qae f s):qbk g s=qbk f s∧qai g s=qai f s∧qd1 g s=qd1 f s:=by
 have e:qbk g s=qbk f s:=by unfold qbk;rw [h,h1,h2]
 refine ⟨e, ?_, ?_⟩
 ·unfold qai;rw [e,h]
 ·unfold qd1;rw [e,h]
theorem qzn (l:List (List UInt8)) (b:List UInt8) (h:0<l.length):(l.set 0 b).headD []=b∧(l.set 0 b).tail=l.tail:=by
 cases l with
 | nil=>simp at h
 | cons a t=>exact ⟨rfl,rfl⟩
theorem new_ok {f:Fsd} {s:List UInt8} {n:Int} (h:(newW f s n).2.2=0):∃(y:Fsd) (g:Nat),newW f s n=(y,(s,g,0,0,0,0),0)∧okFs f∧okFs y∧qaz y s=0∧qbk y s=0∧qai y s=(s,g,0,0,0,0)∧qd1 y s=[]∧((qae y s).length:Int)=n∧2≤n∧n≤4096∧g<4294967296:=by
 unfold newW at h ⊢
 by_cases h0:fsE f=0
 ·rw [if_neg (fun e=>e h0)] at h ⊢
  by_cases h1:n<2∨4096<n
  ·rw [if_pos h1] at h;cases h
  ·rw [if_neg h1] at h ⊢
   by_cases h2:(qa4 f s n).2=0
   ·rw [if_neg (fun e=>e h2)] at h ⊢
    obtain ⟨c0,c1,c2,c3,c4,_⟩:=qix h2;obtain ⟨D,hD⟩:∃D,D=(qa4 f s n).1:=⟨_,rfl⟩
    have cD:okFs D∧qaz D s=0∧qjm D s=n:=by rw [hD,c1];exact ⟨c2,c3,c4⟩
    rw [←hD] at h ⊢
    by_cases h3:qct (qae D s)=4294967295
    ·rw [if_pos h3] at h;cases h
    ·rw [if_neg h3] at h ⊢
     by_cases h4:(qcm D s 0 (headW (qct (qae D s)+1))).2=0
     ·rw [if_neg (fun e=>e h4)]
      have hml:=qr2 (qae D s) 0 (by omega);have hml:qct (qae D s)<4294967296:=hml
      have hgl:qct (qae D s)+1<4294967296:=by omega
      obtain ⟨j,e,hj,hset,p1,p2,p3,p4,p5⟩:=qaf5 h4
      obtain rfl:j=0:=by omega
      have hlen:((qae D s).length:Int)=n:=by rw [←qid cD.2.1];exact cD.2.2
      obtain ⟨s1,s2⟩:=qzn (qae D s) (headW (qct (qae D s)+1)) hj;refine ⟨_,_,rfl,c0,p1,p4, ?_, ?_, ?_,by rw [hset,List.length_set];exact hlen,by omega,by omega,hgl⟩
      ·exact qj7 p4 (by rw [hset,List.length_set];omega) (by rw [hset,s1];exact qqf hgl (by omega))
      all_goals
       have h0:=qj7 p4 (by rw [hset,List.length_set];omega) (by rw [hset,s1];exact qqf hgl (by omega));obtain ⟨_,_,_,o1,o2⟩:=qc9 h0
       have hlo:=qyw (qae D s).tail (qct (qae D s)+1) hgl (fun b hb=>by
        have:=(qyv (qae D s) 0).2 b (List.mem_of_mem_tail hb)
        have:genF b≤qct (qae D s):=this
        omega)
      ·rw [o1,hset]
       unfold logW;rw [s1,s2,qlo hgl,hlo.1];have h9:=hlo.2;rw [hlo.1] at h9
       rw [h9];rfl
      ·rw [o2,hset]
       unfold recL
       rw [s1,s2,qlo hgl,hlo.1];rfl
     ·rw [if_pos h4] at h;exact absurd h h4
   ·rw [if_pos h2] at h;exact absurd h h2
 ·rw [if_pos h0] at h;exact absurd h h0
theorem qqn {l:List (List UInt8)} (h:0<l.length):l.headD []=l[0]:=by
 cases l with
 | nil=>simp at h
 | cons a t=>rfl
theorem drop_at {T:List (List UInt8)} {a i:Nat} (h:a≤i) (hi:i<T.length) (h2:i - a<(T.drop a).length):(T.drop a)[i - a]=T[i]:=by
 have e:a+(i - a)=i:=by omega
 simp only [List.getElem_drop,e]
theorem qqo {L rows:List (List UInt8)} {K:List Bool} {B:Nat} (h:0<L.length):(layL L (1+B) rows K).headD []=L.headD []∧(layL L (1+B) rows K).tail=layL L.tail B rows K:=by
 have hl:=qb1 L (1+B) rows K
 have h0:0<(layL L (1+B) rows K).length:=by omega
 constructor
 ·have e1:=qqn h0
  have e2:=qqn h;rw [e1,e2,qdu _ _ _ _ _ h,if_neg (by omega)]
 ·apply List.ext_getElem
  ·rw [List.length_tail,qb1,qb1,List.length_tail]
  ·intro i h1 h2
   rw [qb1,List.length_tail] at h2;rw [List.getElem_tail,qdu _ _ _ _ _ (by omega),qdu _ _ _ _ _ (by rw [List.length_tail];omega),List.getElem_tail]
   have ec:i+1 - (1+B)=i - B:=by omega
   rw [ec]
   by_cases hc:B≤i∧i - B<rows.length∧K.getD (i - B) false=true
   ·rw [if_pos hc,if_pos ⟨by omega,hc.2⟩]
   ·rw [if_neg hc,if_neg (fun h=>hc ⟨by omega,h.2⟩)]
theorem qtz (g S:Nat):∀(l:List (List UInt8)) (m:Nat),m≤S→(∀b∈l,genF b=g→qbw b≤S∧qeb b≤S)→l.foldl (gmax g) m≤S
 | [],m,hm,_=>hm
 | b::l,m,hm,h=>by
  rw [List.foldl_cons]
  refine qtz g S l _ ?_ (fun c hc=>h c (List.mem_cons_of_mem _ hc))
  unfold gmax
  split
  ·rename_i hb
   have:=h b (List.mem_cons_self ..) hb
   omega
  ·exact hm
theorem qaf6 {s:List UInt8} {L:List (List UInt8)} {r:List UInt8} {K:List Bool} (h2:2≤L.length) (h4:L.length≤4096) (hh:qgl (L.headD [])) (hn:qb2 (logW s L) r=0) (hf:(rowB (hdW (logW s L)) r).length≤L.length - 1 - (logW s L).2.2.2.2.2):
  recL (layL L (1+(logW s L).2.2.2.2.2) (rowB (hdW (logW s L)) r) K)=(if allK K (rowB (hdW (logW s L)) r).length then recL L++[r] else recL L)∧
  (logW s (layL L (1+(logW s L).2.2.2.2.2) (rowB (hdW (logW s L)) r) K)).2.2.1=(if allK K (rowB (hdW (logW s L)) r).length then (logW s L).2.2.1+1 else (logW s L).2.2.1)∧
  (logW s (layL L (1+(logW s L).2.2.2.2.2) (rowB (hdW (logW s L)) r) K)).2.2.2.2.2=(if allK K (rowB (hdW (logW s L)) r).length then (logW s L).2.2.2.2.2+(rowB (hdW (logW s L)) r).length else (logW s L).2.2.2.2.2)∧
  (logW s (layL L (1+(logW s L).2.2.2.2.2) (rowB (hdW (logW s L)) r) K)).2.1=(logW s L).2.1∧
  max (logW s (layL L (1+(logW s L).2.2.2.2.2) (rowB (hdW (logW s L)) r) K)).2.2.2.1 (logW s (layL L (1+(logW s L).2.2.2.2.2) (rowB (hdW (logW s L)) r) K)).2.2.2.2.1≤max (logW s L).2.2.2.1 (logW s L).2.2.2.2.1+1:=by
 obtain ⟨e1,e2⟩:=qqo (L:=L) (rows:=rowB (hdW (logW s L)) r) (K:=K) (B:=(logW s L).2.2.2.2.2) (by omega);obtain ⟨g,hg⟩:∃g,g=genF (L.headD []):=⟨_,rfl⟩
 have hgl:g<4294967296:=by rw [hg];exact qlk _
 obtain ⟨T,hT⟩:∃T,T=L.tail:=⟨_,rfl⟩
 have hlog:logW s L=(s,g,(logO g T).length,endO 0 (logO g T),qb0 g (T.drop (sumO (logO g T))),sumO (logO g T)):=by unfold logW;rw [←hg,←hT]
 have hT1:T.length=L.length - 1:=by rw [hT,List.length_tail]
 obtain ⟨M,hM⟩:∃M,M=max (endO 0 (logO g T)) (qb0 g (T.drop (sumO (logO g T)))):=⟨_,rfl⟩
 have hhd:hdW (logW s L)=(g,(logO g T).length+1,M+1,endO 0 (logO g T)):=by rw [hlog,hM];rfl
 have hn1:r.length≤16384∧M≠4294967295∧frmE (g,(logO g T).length+1,M+1,endO 0 (logO g T)) r=0:=by
  have h9:=hn;unfold qb2 at h9;rw [hhd,hlog] at h9
  by_cases a:16384<r.length
  ·rw [if_pos a] at h9;cases h9
  ·rw [if_neg a] at h9
   by_cases b:M=4294967295
   ·rw [if_pos (by rw [←hM];exact b)] at h9;cases h9
   ·rw [if_neg (by rw [←hM];exact b)] at h9
    exact ⟨by omega,b,h9⟩
 have hel:=qib g (T.length+1) 1 0 T (by omega);have hel:endO 0 (logO g T)<4294967296:=hel;have hgr:=qoh g (T.drop (sumO (logO g T))) 0 (by omega);have hgr:qb0 g (T.drop (sumO (logO g T)))<4294967296:=hgr
 have hMl:M+1<4294967296:=by have:=hn1.2.1;omega
 rw [hhd,hlog] at hf ⊢;rw [hhd,hlog] at e1 e2;dsimp only at hf e1 e2 ⊢;have htorn:=qacg (keep:=K) hgl hMl (l:=T) (salt:=M+1) (r:=r) (by omega) (by omega) hn1.2.2 (by omega);obtain ⟨rows,hrows⟩:∃rows,rows=rowB (g,(logO g T).length+1,M+1,endO 0 (logO g T)) r:=⟨_,rfl⟩;rw [←hrows] at htorn hf e1 e2 ⊢
 have hgen:genF ((layL L (1+sumO (logO g T)) rows K).headD [])=g:=by rw [e1,hg]
 have hnew:logW s (layL L (1+sumO (logO g T)) rows K)=(s,g,(logO g (layL T (sumO (logO g T)) rows K)).length,endO 0 (logO g (layL T (sumO (logO g T)) rows K)),qb0 g ((layL T (sumO (logO g T)) rows K).drop (sumO (logO g (layL T (sumO (logO g T)) rows K)))),sumO (logO g (layL T (sumO (logO g T)) rows K))):=by
  unfold logW;rw [hgen,e2,←hT]
 have hrec:recL (layL L (1+sumO (logO g T)) rows K)=(logO g (layL T (sumO (logO g T)) rows K)).map (·.1):=by unfold recL;rw [hgen,e2,←hT]
 have hrec0:recL L=(logO g T).map (·.1):=by unfold recL;rw [←hg,←hT]
 have hgm:∀c,sumO (logO g T)≤c→qb0 g ((layL T (sumO (logO g T)) rows K).drop c)≤M+1:=by
  intro c hc;refine qtz g (M+1) _ 0 (Nat.zero_le _) (fun b hb hbg=>?_);obtain ⟨i,hi,rfl⟩:=List.getElem_of_mem hb;rw [List.length_drop,qb1] at hi;rw [List.getElem_drop] at hbg ⊢;rw [qdu _ _ _ _ _ (by omega)] at hbg ⊢
  by_cases hq:sumO (logO g T)≤c+i∧c+i - sumO (logO g T)<rows.length∧K.getD (c+i - sumO (logO g T)) false=true
  ·rw [if_pos hq]
   have hj:=hq.2.1
   have e9:rows.getD (c+i - sumO (logO g T)) []=rows[c+i - sumO (logO g T)]:=by rw [List.getD_eq_getElem?_getD,List.getElem?_eq_getElem hj];rfl
   rw [e9]
   simp only [hrows,qeu]
   rw [qfc _ _ _ _ hMl,qm4 _ _ _ _ hel]
   constructor
   ·exact Nat.le_refl _
   ·show endO 0 (logO g T)≤M+1;omega
  ·rw [if_neg hq] at hbg ⊢
   have hd:=drop_at (T:=T) (a:=sumO (logO g T)) (i:=c+i) (by omega) (by omega) (by rw [List.length_drop];omega);have h9:=qtn g (T.drop (sumO (logO g T))) (c+i - sumO (logO g T)) (by rw [List.length_drop];omega) (by rw [hd];exact hbg);rw [hd] at h9;omega
 rw [hnew,hrec,hrec0,htorn]
 by_cases hk:allK K rows.length=true
 ·rw [if_pos hk,if_pos hk,if_pos hk,if_pos hk]
  refine ⟨by simp,by simp,by rw [qeo],rfl, ?_⟩;rw [qgi,qeo];refine Nat.le_trans (Nat.max_le.2 ⟨?_, ?_⟩) (show M+1≤_ by rw [hM];exact Nat.le_refl _)
  ·exact Nat.le_refl _
  ·exact hgm _ (by omega)
 ·rw [if_neg hk,if_neg hk,if_neg hk,if_neg hk]
  refine ⟨rfl,rfl,rfl,rfl, ?_⟩;refine Nat.le_trans (Nat.max_le.2 ⟨?_, ?_⟩) (show M+1≤_ by rw [hM];exact Nat.le_refl _)
  ·show endO 0 (logO g T)≤M+1;omega
  ·exact hgm _ (Nat.le_refl _)
structure AppI (f:Fsd) (s:List UInt8) (r:List UInt8):Prop where
 ok:okFs f
 op:qbk f s=0
 wait:f.1.2.1=[]
 done:f.1.2.2.length≤60000
 nx:qb2 (qai f s) r=0
 fit:((qbx (qai f s) r).length:Int)≤behN f (qai f s)
def psW (f:Fsd) (s:List UInt8) (r:List UInt8):List Pu:=pW f s (1+(qai f s).2.2.2.2.2) (qbx (qai f s) r)
theorem qii {f:Fsd} {s:List UInt8} (h:qbk f s=0):(qai f s).1=s:=by rw [(qc9 h).2.2.2.1];rfl
theorem qfr {f:Fsd} {s:List UInt8} (h:qbk f s=0):behE f (qai f s)=0∧behN f (qai f s)=((qae f s).length:Int) - 1 - (qai f s).2.2.2.2.2∧(qai f s).2.2.2.2.2≤(qae f s).length - 1:=by
 have hn:=qii h
 have e:behE f (qai f s)=0:=by unfold behE;rw [hn,if_neg (fun e=>e h),if_neg (fun e=>e rfl)]
 refine ⟨e,by unfold behN;rw [if_neg (fun h=>h e),hn], ?_⟩;rw [(qc9 h).2.2.2.1];exact (qr6 s (qae f s) (qck _ _)).2.2.2.2
theorem qom {W:Wl} {r:List UInt8} (h:qb2 W r=0):qbx W r=rowB (hdW W) r∧(qbx W r).length≤154∧∀b∈qbx W r,b.length=128:=by
 have e:qbx W r=rowB (hdW W) r:=by unfold qbx;rw [if_neg (fun e=>e h)]
 have hr:r.length≤16384:=by
  unfold qb2 at h
  split at h
  ·cases h
  ·omega
 refine ⟨e,by rw [e,qc7];exact qh8 _ hr, ?_⟩;rw [e];intro b hb;obtain ⟨i,hi,rfl⟩:=List.getElem_of_mem hb
 rw [qeu];exact qym _ _ _ _
theorem qt0 {f:Fsd} {s r:List UInt8} (h:AppI f s r):appX f (qai f s) r=(zW f (psW f s r),0)∧okFs (zW f (psW f s r))∧(∀p∈psW f s r,putE (mny f.1) p=0∧34≤p.1)∧(psW f s r).length≤154∧(psW f s r).length=(qbx (qai f s) r).length:=by
 obtain ⟨b1,b2,b3⟩:=qfr h.op;obtain ⟨n1,n2,n3⟩:=qom h.nx;obtain ⟨o1,o2,_⟩:=qc9 h.op;have hfit:=h.fit;rw [b2] at hfit
 have hat:1+(qai f s).2.2.2.2.2+(qbx (qai f s) r).length≤(bloL f s).length:=by rw [←qc8 o1];omega
 have hpl:=qqh f s (1+(qai f s).2.2.2.2.2) (qbx (qai f s) r);have hput:=qtr h.ok o1 n3 hat (by rw [h.wait];simp;omega) (by have:=h.done;omega) _ (Nat.le_refl _)
 have htk:(pW f s (1+(qai f s).2.2.2.2.2) (qbx (qai f s) r)).take (qbx (qai f s) r).length=psW f s r:=by
  unfold psW;rw [List.take_of_length_le (by omega)]
 rw [htk] at hput;have hlen:(psW f s r).length=(qbx (qai f s) r).length:=hpl;obtain ⟨s1,s2⟩:=qacj hput.2 (by rw [hlen];have:=h.done;omega);refine ⟨?_,s2,pW_in o1 n3 hat,by omega,hlen⟩;unfold appX;rw [if_neg (fun e=>e b1),if_neg (fun e=>e h.nx),if_neg (by rw [b2];omega),qii h.op]
 have ei:1+((qai f s).2.2.2.2.2:Int)=((1+(qai f s).2.2.2.2.2:Nat):Int):=by omega
 rw [ei];unfold qep;rw [hput.1];dsimp only;rw [if_neg (by simp),s1,if_neg (by simp)]
theorem qacu {f z:Fsd} {s r:List UInt8} {K:List Bool} {A:List Ac} (h:AppI f s r) (hz:qaz z s=0) (hb:bloL z s=bloL f s) (hd:z.1=(qf2 f.1.1 (kept (psW f s r) K),[],A)):
  qbk z s=0∧qd1 z s=(if allK K (psW f s r).length then qd1 f s++[r] else qd1 f s)∧
  (qai z s).2.2.1=(if allK K (psW f s r).length then (qai f s).2.2.1+1 else (qai f s).2.2.1)∧
  (qai z s).2.2.2.2.2=(if allK K (psW f s r).length then (qai f s).2.2.2.2.2+(psW f s r).length else (qai f s).2.2.2.2.2)∧
  (qai z s).2.1=(qai f s).2.1∧max (qai z s).2.2.2.1 (qai z s).2.2.2.2.1≤max (qai f s).2.2.2.1 (qai f s).2.2.2.2.1+1∧(qae z s).length=(qae f s).length:=by
 obtain ⟨b1,b2,b3⟩:=qfr h.op;obtain ⟨n1,n2,n3⟩:=qom h.nx;obtain ⟨o1,o2,o3,o4,o5⟩:=qc9 h.op;have hlen:=(qt0 h).2.2.2.2;have hfit:=h.fit;rw [b2] at hfit
 have hat:1+(qai f s).2.2.2.2.2+(qbx (qai f s) r).length≤(bloL f s).length:=by rw [←qc8 o1];omega
 have hbl:=qy3 (K:=K) (A:=A) o1 n3 hat h.wait hz hb hd
 have hbz:(qae z s).length=(qae f s).length:=by rw [hbl,qb1]
 have hlay:=qaf6 (s:=s) (L:=qae f s) (r:=r) (K:=K) o2 (qck _ _) o3 (by rw [←o4];exact h.nx) (by rw [←o4,←n1];omega);rw [←o4,←n1] at hlay;have hhd:=(qqo (L:=qae f s) (rows:=qbx (qai f s) r) (K:=K) (B:=(qai f s).2.2.2.2.2) (by omega)).1;have hop:qbk z s=0:=qj7 hz (by rw [hbz];exact o2) (by rw [hbl,hhd];exact o3);obtain ⟨_,_,_,p4,p5⟩:=qc9 hop;rw [p4,p5,hbl,hlen,o5];refine ⟨hop,hlay.1,hlay.2.1,hlay.2.2.1,hlay.2.2.2.1,hlay.2.2.2.2,qb1 _ _ _ _⟩
theorem qacv (n:Nat):allK (List.replicate n true) n=true:=by
 rw [qoi];intro i hi
 rw [List.getD_eq_getElem?_getD,List.getElem?_replicate,if_pos hi];rfl
theorem qaf7 {f:Fsd} (hW:f.1.2.1=[]) (ps:List Pu):(zW f ps).1=(qf2 f.1.1 (kept ps (List.replicate ps.length true)),[],f.1.2.2++acW ps++[(true,0,[])]):=by
 unfold zW
 rw [hW,qts];rfl
theorem qsa {f:Fsd} {s r:List UInt8} (h:AppI f s r):∃z:Fsd,z=zW f (psW f s r)∧appW f (qai f s) r=(z,qai z s,0)∧okFs z∧qbk z s=0∧qd1 z s=qd1 f s++[r]∧(qai z s).2.2.1=(qai f s).2.2.1+1∧(qai z s).2.2.2.2.2=(qai f s).2.2.2.2.2+(psW f s r).length∧(qai z s).2.1=(qai f s).2.1∧max (qai z s).2.2.2.1 (qai z s).2.2.2.2.1≤max (qai f s).2.2.2.1 (qai f s).2.2.2.2.1+1∧(qae z s).length=(qae f s).length∧z.2=f.2∧z.1.2.1=[]∧z.1.2.2.length=f.1.2.2.length+(psW f s r).length+1:=by
 obtain ⟨a1,a2,a3,a4,a5⟩:=qt0 h;obtain ⟨o1,_⟩:=qc9 h.op
 have hz:qaz (zW f (psW f s r)) s=0:=by rw [qh7 (f:=f) (g:=zW f (psW f s r)) rfl h.ok a2];exact o1
 obtain ⟨k1,k2,k3,k4,k5,k6,k7⟩:=qacu (z:=zW f (psW f s r)) (K:=List.replicate (psW f s r).length true) (A:=f.1.2.2++acW (psW f s r)++[(true,0,[])]) h hz (qhi (f:=f) (g:=zW f (psW f s r)) rfl s).1 (qaf7 h.wait _);rw [qacv,if_pos rfl] at k2 k3 k4;refine ⟨_,rfl, ?_,a2,k1,k2,k3,k4,k5,k6,k7,rfl,rfl, ?_⟩
 ·unfold appW
  rw [a1];dsimp only;rw [if_neg (by simp),qii h.op,k1]
 ·show (f.1.2.2++acW (psW f s r)++[(true,0,[])]).length=_
  rw [List.length_append,List.length_append,qr7];rfl
theorem qqp {f:Fsd} {s:List UInt8} (r:List UInt8) (hok:okFs f) (hop:qbk f s=0) (hw:f.1.2.1=[]) (hd:f.1.2.2.length≤60000):
  AppI f s r∨(appW f (qai f s) r=(fz,wz,3)∧16384<r.length)∨(appW f (qai f s) r=(fz,wz,9)∧max (qai f s).2.2.2.1 (qai f s).2.2.2.2.1=4294967295)∨(appW f (qai f s) r=(fz,wz,90)∧behN f (qai f s)<((qbx (qai f s) r).length:Int)∧qb2 (qai f s) r=0):=by
 obtain ⟨b1,b2,b3⟩:=qfr hop
 by_cases h1:16384<r.length
 ·refine .inr (.inl ⟨?_,h1⟩)
  have e:qb2 (qai f s) r=3:=by unfold qb2;rw [if_pos h1]
  have ex:appX f (qai f s) r=(fz,3):=by unfold appX;rw [if_neg (fun e=>e b1),if_pos (by rw [e];decide),e]
  unfold appW;rw [ex,if_pos (by show ¬(3:Int)=0;decide)]
 ·by_cases h2:max (qai f s).2.2.2.1 (qai f s).2.2.2.2.1=4294967295
  ·refine .inr (.inr (.inl ⟨?_,h2⟩))
   have e:qb2 (qai f s) r=9:=by unfold qb2;rw [if_neg h1,if_pos h2]
   have ex:appX f (qai f s) r=(fz,9):=by unfold appX;rw [if_neg (fun e=>e b1),if_pos (by rw [e];decide),e]
   unfold appW;rw [ex,if_pos (by show ¬(9:Int)=0;decide)]
  ·have hg:(qai f s).2.1≠0:=by
    rw [(qc9 hop).2.2.2.1];exact (qc9 hop).2.2.1.1
   have e:qb2 (qai f s) r=0:=by
    unfold qb2;rw [if_neg h1,if_neg h2]
    generalize qai f s=W at *;exact qyo (h:=hdW W) hg (Nat.succ_ne_zero _) (by omega)
   by_cases h3:behN f (qai f s)<((qbx (qai f s) r).length:Int)
   ·refine .inr (.inr (.inr ⟨?_,h3,e⟩))
    have ex:appX f (qai f s) r=(fz,90):=by unfold appX;rw [if_neg (fun e=>e b1),if_neg (fun h=>h e),if_pos h3]
    unfold appW;rw [ex,if_pos (by show ¬(90:Int)=0;decide)]
   ·exact .inl ⟨hok,hop,hw,hd,e,by omega⟩
def ComI (f:Fsd) (s:List UInt8):Prop:=∃l,(s,l)∈f.2.2.1∧(s,l)∈f.2.2.2
theorem qt1 {n:Int} (h1:34<n) (h2:n≤4096):∃x:List UInt8,qb8 n=(((x,[],[]),1,[],[]),0)∧okFs ((x,[],[]),1,[],[])∧mny (x,[],[])=n.toNat∧∀k,34≤k→k<n.toNat→blk x k=List.replicate 128 0:=by
 have hn:(newD n).2=0:=by unfold newD;rw [if_neg (by omega)]
 obtain ⟨a,b,c,d,e⟩:=qya hn h1;have hs:=qle hn h1
 have hno:qbe (newD n).1 (qez 1 [0])≠none:=by
  rw [e]
  simp [qez,qd9,qbb,qbe,oneD]
 cases ho:qbe (newD n).1 (qez 1 [0]) with
 | none=>exact absurd ho hno
 | some x=>
  rw [ho] at hs;have hs:qbv (((newD n).1,0,[],[]),0,[])=((x,1,[],[]),0,[0]):=hs
  have hz:qb6 (newD n).1 (0 % 2)=(0,0):=by
   have hb:blk (newD n).1.1 0=List.replicate 128 0:=by
    rw [e];unfold blk;rw [List.drop_zero,List.take_replicate,Nat.min_eq_left (by omega)]
   unfold qb6;rw [hb,qab3];rfl
  have hx:=qp5 (D:=[]) (g:=0) a b (by rw [e];intro p hp;cases hp) (by exact qyc b (by omega)) (by decide) (by rw [hz];exact Nat.le_refl 0) (by rw [qyb];exact ho);obtain ⟨o1,o2,o3,o4⟩:=qiv a b (by decide:(1:Nat)≠0) (by simp:([0]:List UInt8).length≤2048) ho
  have hcl:okD (x.1,[],[])=true:=by
   obtain ⟨p1,p2,p3,p4,p5,p6,p7⟩:=(qcg x).1 o1;exact (qcg _).2 ⟨p1,p2,p3,by simp,by simp,by simp,by simp⟩
  refine ⟨x.1, ?_, ?_, ?_, ?_⟩
  ·unfold qb8
   rw [if_neg (by rw [hn];decide),if_neg (by omega),hs]
   have e2:qf9 x=((x.1,[],[]),0):=by unfold qf9;rw [if_neg (by rw [qmc o1];decide),o3]
   unfold qag;rw [if_pos rfl];unfold qhw qlz endW
   simp only [e2]
   rfl
  ·have:=qoc (f:=(x,0+1,[],[])) (d:=(x.1,[],[])) (D:=[]) hx hcl rfl (fun k _=>rfl) (by intro p hp;cases hp) hx.2.2.2.2.2
   exact this
  ·rw [←c,←o2];rfl
  ·intro k hk1 hk2
   have hwl:(qbb [0]).length=1:=by kernel_rfl
   rw [o4 k (by omega),if_neg (by omega),if_neg (by rw [hwl];omega),qcq a (by omega),e]
   show blk (List.replicate (n.toNat*128) 0) k=_
   exact qacr (by omega)
theorem qqq:∀(l:List Ac) (d:Dk),d.2.1.length+l.length≤65536→d.2.2.length+l.length≤65536→∃x,qbe d l=some x∧x.2.2=d.2.2++l
 | [],d,_,_=>⟨d,rfl,by simp⟩
 | a::l,d,h1,h2=>by
  rw [List.length_cons] at h1 h2
  obtain ⟨y,e,hw,hd⟩:∃y,oneD d a=some y∧y.2.1.length≤d.2.1.length+1∧y.2.2=d.2.2++[a]:=by
   unfold oneD;rw [if_neg (by omega)];cases a.1
   ·exact ⟨_,rfl,by simp,rfl⟩
   ·exact ⟨_,rfl,by simp,rfl⟩
  obtain ⟨x,hx,hx2⟩:=qqq l y (by omega) (by rw [hd,List.length_append,List.length_singleton];omega);refine ⟨x, ?_,by rw [hx2,hd];simp⟩;rw [qbe,e];exact hx
theorem qlu {g:Nat} {l:List UInt8} (h:l.length≤2048):(qez g l).length≤20:=by
 have hw:∀(bl:List (List UInt8)) (n:Int),(qd9 n bl).length=bl.length:=by
  intro bl
  induction bl with
  | nil=>intro n;rfl
  | cons b bl ih=>intro n;simp [qd9,ih]
 unfold qez;rw [List.length_cons,List.length_append,hw,qco]
 simp
 omega
theorem qacw {y:Fsd} (hok:okFs y) (hg:y.2.1≠4294967295) (hw:y.1.2.1.length≤60000) (hd:y.1.2.2.length≤60000):∃h:Fsd,qc0 y=(h,0)∧okFs h∧h.2.2.1=y.2.2.1∧h.2.2.2=y.2.2.1∧h.1.2.1=[]∧h.1.2.2.length≤y.1.2.2.length+20∧Like y h []:=by
 have hb:(bytF y.2.2.1).length≤2048:=(qby hok.2.2.2.2.2).2.2.2.2;obtain ⟨x,hx,hx2⟩:=qqq (qez (y.2.1+1) (bytF y.2.2.1)) y.1 (by have:=qlu (g:=y.2.1+1) hb;omega) (by have:=qlu (g:=y.2.1+1) hb;omega)
 have e:qc0 y=((x,y.2.1+1,y.2.2.1,y.2.2.1),0):=by
  rw [qpv];unfold qaby
  rw [if_neg (by rw [qej hok];simp),if_neg hg,hx]
 obtain ⟨x',c1,c2,c3,c4,c5,c6⟩:=qvg hok (by rw [e]);rw [e] at c1
 have:x=x':=by
  have:=congrArg (fun q:Fsd × Int=>q.1.1) c1
  exact this
 subst this;exact ⟨_,e,c2,rfl,rfl,c3,by show x.2.2.length≤_;rw [hx2,List.length_append];have:=qlu (g:=y.2.1+1) hb;omega,c6⟩
def logN:List UInt8:=[108,111,103]
def qaf8 (N n:Int):Bool:=decide (qba [] logN=6) && decide (qd3 34 N [] n=0) && decide (qa5 [] logN (qcl 34 N [] n) N=0)
theorem qaf9:qaf8 64 4=true:=by kernel_rfl
theorem qqr:∀(l:List (List UInt8)),(∀b∈l,genF b=0)→qct l=0
 | [],_=>rfl
 | b::l,h=>by
  have ih:=qqr l (fun c hc=>h c (List.mem_cons_of_mem _ hc));unfold qct at ih ⊢;rw [List.foldl_cons,h b (List.mem_cons_self ..)];exact ih
theorem qzo:genF (List.replicate 128 0)=0:=by kernel_rfl
structure LogI (f:Fsd) (s:List UInt8) (n:Nat):Prop where
 ok:okFs f
 wait:f.1.2.1=[]
 done:f.1.2.2.length≤1000
 com:ComI f s
 op:qbk f s=0
 len:(qae f s).length=n
def wl1:Wl:=(logN,1,0,0,0,0)
theorem qacx {N n:Int} (h1:34<N) (h2:N≤4096) (hn:2≤n) (hn4:n≤4096) (hk:qaf8 N n=true):∃F y h:Fsd,qb8 N=(F,0)∧okFs F∧F.2.2.1=[]∧newW F logN n=(y,wl1,0)∧okFs y∧qc0 y=(h,0)∧LogI h logN n.toNat∧qai h logN=wl1∧qd1 h logN=[]:=by
 obtain ⟨x,f1,f2,f3,f4⟩:=qt1 h1 h2
 obtain ⟨⟨k1,k2⟩,k3⟩:(qba [] logN=6∧qd3 34 N [] n=0)∧qa5 [] logN (qcl 34 N [] n) N=0:=by
  unfold qaf8 at hk
  simpa using hk
 obtain ⟨F,hF⟩:∃F:Fsd,F=((x,[],[]),1,[],[]):=⟨_,rfl⟩;rw [←hF] at f1 f2
 have hmF:qa6 F=N:=by
  rw [qgu (qaw f2).1,hF]
  show ((mny ((x,[],[]):Dk):Nat):Int)=N
  rw [f3];omega
 have hu:qa3 F=[]:=by rw [hF];kernel_rfl
 have hmk:mkE F logN n=0:=by
  unfold mkE
  have e9:F.2.2.1=[]:=by rw [hF]
  rw [e9,hmF,hu,k1,if_neg (by decide),if_neg (by decide),k2,if_neg (by simp),k3]
 have hcr:(qa4 F logN n).2=0:=by unfold qa4;rw [hmk,qafb (qej f2)]
 obtain ⟨c0,c1,c2,c3,c4,_⟩:=qix hcr;obtain ⟨D,hD⟩:∃D:Fsd,D=(qa4 F logN n).1:=⟨_,rfl⟩
 have eD:D=(F.1,F.2.1,mkL F logN n,F.2.2.2):=by rw [hD,c1]
 have cD:okFs D∧qaz D logN=0∧qjm D logN=n:=by rw [eD];exact ⟨c2,c3,c4⟩
 have hD1:D.1=(x,[],[]):=by rw [eD,hF]
 have hD2:D.2.1=1:=by rw [eD,hF]
 have hlenD:((qae D logN).length:Int)=n:=by rw [←qid cD.2.1];exact cD.2.2
 have hmost:qct (qae D logN)=0:=by
  refine qqr _ (fun b hb=>?_);obtain ⟨i,hi,rfl⟩:=List.getElem_of_mem hb
  have hi':i<(bloL D logN).length:=by rw [←qc8 cD.2.1];exact hi
  rw [qg1 cD.2.1 hi hi'];have hr:=qcs cD.2.1 _ (List.getElem_mem hi');rw [hD1] at hr ⊢;rw [f3] at hr
  show genF (blk x _)=0
  rw [f4 _ (by omega) (by omega),qzo]
 obtain ⟨p1,p2⟩:=qy2 (f:=D) (s:=logN) (i:=0) (b:=headW 1) cD.1 cD.2.1 (by rw [←qc8 cD.2.1];omega) (qqe 1) (by rw [hD1];simp) (by rw [hD1];simp);obtain ⟨y,hy⟩:∃y:Fsd,y=yW D [((bloL D logN)[0]'(by rw [←qc8 cD.2.1];omega),headW 1)]:=⟨_,rfl⟩;rw [←hy] at p1 p2
 have hnew:newW F logN n=(y,wl1,0):=by
  unfold newW;rw [if_neg (by rw [qej f2];simp),if_neg (by omega),if_neg (by rw [hcr];simp),←hD,hmost,if_neg (by decide)];have p1:qcm D logN 0 (headW (0+1))=(y,0):=p1;rw [p1,if_neg (by simp)];rfl
 obtain ⟨y',g,n1,n2,n3,n4,n5,n6,n7,n8,n9,n10,n11⟩:=new_ok (f:=F) (s:=logN) (n:=n) (by rw [hnew]);rw [hnew] at n1;have ey:y'=y:=(congrArg (fun q:Fw=>q.1) n1).symm
 have eg:g=1:=by have:=congrArg (fun q:Fw=>q.2.1.2.1) n1;exact this.symm
 rw [ey] at n3 n4 n5 n6 n7 n8;rw [eg] at n6
 have hy1:y.1.2.1.length=1∧y.1.2.2.length=1∧y.2.1=1:=by
  rw [hy];unfold yW acW;rw [hD1];exact ⟨rfl,rfl,hD2⟩
 obtain ⟨h,m1,m2,m3,m4,m5,m6,m7⟩:=qacw (y:=y) n3 (by rw [hy1.2.2];decide) (by omega) (by omega);obtain ⟨b1,b2⟩:=qzl m7 n4;obtain ⟨o1,o2,o3⟩:=qzm n4 b1 b2;obtain ⟨_,l,hl⟩:=qcr n4;refine ⟨F,y,h,f1,f2,by rw [hF],hnew,n3,m1,⟨m2,m5,by omega,⟨l,by rw [m3];exact hl,by rw [m4];exact hl⟩,by rw [o1];exact n5,by rw [b2];omega⟩,by rw [o2,n6];rfl,by rw [o3,n7]⟩
theorem OwFs.rdx {w:World} {base:Nat} {x:FsV} {f:Fsd} (h:OwFs w base x.val f):RdX w x f:=by
 obtain ⟨x',ex',hx'⟩:=h.form;have e:x'=x:=FsV.ext_val ex'.symm;subst e;exact hx'
end Go.Proofs.YtnmbbpdhjkaidaaGreat
