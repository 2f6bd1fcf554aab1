/-
  What is read in rows of bytes, writes, acts, files and extents stays, where only variables of files on a disk, and rows of directories, are written.
-/
import Derived.Test.YtnmbbpdhjkaidaaGreatFr7
import Derived.Test.YtnmbbpdhjkaidaaGreatWal7
namespace Go.Proofs.YtnmbbpdhjkaidaaGreat
open Go.RowKit
set_option linter.all false
theorem qai6 {f:Fsd} {s:List UInt8} {i:Int} {b:List UInt8} (h:(qcs f s i b).2=0):
  ∃j:Nat,i=j∧j<(qaf f s).length∧qaf (qcs f s i b).1 s=(qaf f s).set j b∧okFs (qcs f s i b).1∧(qcs f s i b).1.2=f.2∧qay f s=0∧qay (qcs f s i b).1 s=0∧mny (qcs f s i b).1.1=mny f.1:=by
 obtain ⟨hok,d',e,ha,ho,hact⟩:=qz8 h;obtain ⟨hokF,_,_,hs,hsF,_⟩:=qpt h;rw [e] at hokF hsF ⊢;obtain ⟨_,j,rfl,hj,hN⟩:=qz9 hok ha;obtain ⟨hd,hm34,_,_⟩:=qap hok;obtain ⟨o1,o2,_⟩:=qdp hd hact ho;have hbl:bloL (d',f.2) s=bloL f s:=(qh1 (f:=f) (g:=(d',f.2)) rfl s).1;have hlF:=qdg hsF;have hl:=qdg hs;obtain ⟨_,L,hL⟩:=qcx hs
 have hnd:(bloL f s).Nodup:=by rw [(qdj hok hL).2.2.2.1];exact qip hok hL
 refine ⟨j,rfl,by rw [hl];exact hj, ?_,hokF,rfl,hs,hsF,o2⟩;apply List.ext_getElem
 ·rw [List.length_set,hlF,hl,hbl]
 ·intro k h1 h2
  have hk:k<(bloL f s).length:=by rw [←hbl,←hlF];exact h1
  have hkf:k<(qaf f s).length:=by rw [hl];exact hk
  rw [qis hsF h1 (by rw [hbl];exact hk),List.getElem_set]
  have eb:(bloL (d',f.2) s)[k]'(by rw [hbl];exact hk)=(bloL f s)[k]:=by simp only [hbl]
  rw [eb];have hr:=qcy hs _ (List.getElem_mem hk);obtain ⟨n,hn⟩:∃n:Nat,(bloL f s)[k]=n:=⟨((bloL f s)[k]).toNat,by omega⟩
  have hnt:((bloL f s)[k]).toNat=n:=by omega
  have hnm:n<mny f.1:=by omega
  have hw:=qgo hd hact ho hnm;rw [qcw o1 (by omega),qcw hd hnm,hN] at hw;rw [hnt]
  show nowD d' n=_
  rw [hw]
  by_cases hjk:j=k
  ·subst hjk
   rw [if_pos hn.symm,if_pos rfl]
  ·rw [if_neg hjk,if_neg,qis hs hkf hk,hnt]
   intro e9;exact hjk ((List.getElem_inj hnd).1 (e9.symm.trans hn.symm))
theorem qvi:∀(l m:List (List UInt8)),(∀b∈l,b.length=128)→(∀b∈m,b.length=128)→l.flatten=m.flatten→l=m
 | [],[],_,_,_=>rfl
 | [],c::m,_,hm,h=>by
  have:=congrArg List.length h
  have hc:=hm c (List.mem_cons_self ..)
  simp [hc] at this
  omega
 | b::l,[],hl,_,h=>by
  have:=congrArg List.length h
  have hc:=hl b (List.mem_cons_self ..)
  simp [hc] at this
 | b::l,c::m,hl,hm,h=>by
  have hb:=hl b (List.mem_cons_self ..);have hc:=hm c (List.mem_cons_self ..);rw [List.flatten_cons,List.flatten_cons] at h;obtain ⟨h1,h2⟩:=List.append_inj h (by rw [hb,hc]);rw [h1,qvi l m (fun x hx=>hl x (List.mem_cons_of_mem _ hx)) (fun x hx=>hm x (List.mem_cons_of_mem _ hx)) h2]
theorem qr8 {f:Fsd} {s:List UInt8} (h:qay f s=0):qi9 f s=(qaf f s).flatten:=by
 unfold qi9;rw [if_neg (fun e=>e h),qir h,List.flatMap]
theorem qabl {f g:Fsd} {s:List UInt8} (h1:qay f s=0) (h2:qay g s=0) (h:qi9 f s=qi9 g s):qaf g s=qaf f s:=by
 rw [qr8 h1,qr8 h2] at h;exact (qvi _ _ qj1 qj1 h).symm
theorem qabm {f g:Fsd} {s:List UInt8} (h:Like f g []) (hs:qay f s=0):qay g s=0∧qaf g s=qaf f s:=by
 obtain ⟨hok,l,hl⟩:=qcx hs;obtain ⟨h1,h2,h3⟩:=h (s,l) hl (qaeb hok hl);exact ⟨h2,qabl h1 h2 h3⟩
theorem qr9 {f g:Fsd} {s:List UInt8} (h1:qay f s=0) (h2:qay g s=0) (h:qaf g s=qaf f s):qbw g s=qbw f s∧qan g s=qan f s∧qdf g s=qdf f s:=by
 have e:qbw g s=qbw f s:=by unfold qbw;rw [h,h1,h2]
 refine ⟨e, ?_, ?_⟩
 ·unfold qan;rw [e,h]
 ·unfold qdf;rw [e,h]
theorem qabn (l:List (List UInt8)) (b:List UInt8) (h:0<l.length):(l.set 0 b).headD []=b∧(l.set 0 b).tail=l.tail:=by
 cases l with
 | nil=>simp at h
 | cons a t=>exact ⟨rfl,rfl⟩
theorem new_ok {f:Fsd} {s:List UInt8} {n:Int} (h:(newW f s n).2.2=0):∃(y:Fsd) (g:Nat),newW f s n=(y,(s,g,0,0,0,0),0)∧okFs f∧okFs y∧qay y s=0∧qbw y s=0∧qan y s=(s,g,0,0,0,0)∧qdf y s=[]∧((qaf y s).length:Int)=n∧2≤n∧n≤4096∧g<4294967296:=by
 unfold newW at h ⊢
 by_cases h0:fsE f=0
 ·rw [if_neg (fun e=>e h0)] at h ⊢
  by_cases h1:n<2∨4096<n
  ·rw [if_pos h1] at h;cases h
  ·rw [if_neg h1] at h ⊢
   by_cases h2:(qa6 f s n).2=0
   ·rw [if_neg (fun e=>e h2)] at h ⊢
    obtain ⟨c0,c1,c2,c3,c4,_⟩:=qkn h2;obtain ⟨D,hD⟩:∃D,D=(qa6 f s n).1:=⟨_,rfl⟩
    have cD:okFs D∧qay D s=0∧qk5 D s=n:=by rw [hD,c1];exact ⟨c2,c3,c4⟩
    rw [←hD] at h ⊢
    by_cases h3:qcz (qaf D s)=4294967295
    ·rw [if_pos h3] at h;cases h
    ·rw [if_neg h3] at h ⊢
     by_cases h4:(qcs D s 0 (headW (qcz (qaf D s)+1))).2=0
     ·rw [if_neg (fun e=>e h4)]
      have hml:=qtj (qaf D s) 0 (by omega);have hml:qcz (qaf D s)<4294967296:=hml
      have hgl:qcz (qaf D s)+1<4294967296:=by omega
      obtain ⟨j,e,hj,hset,p1,p2,p3,p4,p5⟩:=qai6 h4
      obtain rfl:j=0:=by omega
      have hlen:((qaf D s).length:Int)=n:=by rw [←qj2 cD.2.1];exact cD.2.2
      obtain ⟨s1,s2⟩:=qabn (qaf D s) (headW (qcz (qaf D s)+1)) hj;refine ⟨_,_,rfl,c0,p1,p4, ?_, ?_, ?_,by rw [hset,List.length_set];exact hlen,by omega,by omega,hgl⟩
      ·exact qln p4 (by rw [hset,List.length_set];omega) (by rw [hset,s1];exact qr1 hgl (by omega))
      all_goals
       have h0:=qln p4 (by rw [hset,List.length_set];omega) (by rw [hset,s1];exact qr1 hgl (by omega));obtain ⟨_,_,_,o1,o2⟩:=qc0 h0
       have hlo:=qaar (qaf D s).tail (qcz (qaf D s)+1) hgl (fun b hb=>by
        have:=(qaaq (qaf D s) 0).2 b (List.mem_of_mem_tail hb)
        have:genF b≤qcz (qaf D s):=this
        omega)
      ·rw [o1,hset]
       unfold logW;rw [s1,s2,qm7 hgl,hlo.1];have h9:=hlo.2;rw [hlo.1] at h9
       rw [h9];rfl
      ·rw [o2,hset]
       unfold recL
       rw [s1,s2,qm7 hgl,hlo.1];rfl
     ·rw [if_pos h4] at h;exact absurd h h4
   ·rw [if_pos h2] at h;exact absurd h h2
 ·rw [if_pos h0] at h;exact absurd h h0
theorem qsa {f:Fsd} (hok:okFs f):qf3 f=((((f.1.1,f.1.2.1,[]):Dk),f.2),0)∧okFs (((f.1.1,f.1.2.1,[]):Dk),f.2):=by
 have e:qf3 f=((((f.1.1,f.1.2.1,[]):Dk),f.2),0):=by rw [qaea,if_neg (by rw [qdx hok];simp)]
 refine ⟨e, ?_⟩;have hd:=(qap hok).1
 have hd2:okD (f.1.1,f.1.2.1,[])=true:=by
  rw [qcb] at hd ⊢;obtain ⟨a,b,c,d,_,g,_⟩:=hd;exact ⟨a,b,c,d,by simp,g,by simp⟩
 exact qmv hok hd2 rfl (fun _ _=>rfl) hok.2.2.1 hok.2.2.2.2.2
theorem qxf {f:Fsd} (hok:okFs f) (s:List UInt8):qay (((f.1.1,f.1.2.1,[]):Dk),f.2) s=qay f s∧(qay f s=0→qaf (((f.1.1,f.1.2.1,[]):Dk),f.2) s=qaf f s):=by
 have h2:=(qsa hok).2;have e:=qio (f:=f) (g:=(((f.1.1,f.1.2.1,[]):Dk),f.2)) rfl hok h2 s;refine ⟨e,fun h=>?_⟩;rw [qir h,qir (e.trans h),(qh1 (f:=f) (g:=(((f.1.1,f.1.2.1,[]):Dk),f.2)) rfl s).1];rfl
theorem qxg {f:Fsd} {s:List UInt8} {l:List Ex} {d:Dk} {G:Nat} (hok:okFs f) (hl:(s,l)∈f.2.2.1) (hl2:(s,l)∈f.2.2.2) (hz:okFs (d,G,f.2.2.2,f.2.2.2)):
  qay f s=0∧qay (d,G,f.2.2.2,f.2.2.2) s=0∧bloL (d,G,f.2.2.2,f.2.2.2) s=bloL f s:=by
 have h1:=qdj hok hl;have h2:=qdj hz (g:=(s,l)) hl2;exact ⟨h1.2.2.2.2,h2.2.2.2.2,h2.2.2.2.1.trans h1.2.2.2.1.symm⟩
theorem qsb {l:List (List UInt8)} (h:0<l.length):l.headD []=l[0]:=by
 cases l with
 | nil=>simp at h
 | cons a t=>rfl
theorem drop_at {T:List (List UInt8)} {a i:Nat} (h:a≤i) (hi:i<T.length) (h2:i - a<(T.drop a).length):(T.drop a)[i - a]=T[i]:=by
 have e:a+(i - a)=i:=by omega
 simp only [List.getElem_drop,e]
theorem qsc {L rows:List (List UInt8)} {K:List Bool} {B:Nat} (h:0<L.length):(layL L (1+B) rows K).headD []=L.headD []∧(layL L (1+B) rows K).tail=layL L.tail B rows K:=by
 have hl:=qca L (1+B) rows K
 have h0:0<(layL L (1+B) rows K).length:=by omega
 constructor
 ·have e1:=qsb h0
  have e2:=qsb h;rw [e1,e2,qea _ _ _ _ _ h,if_neg (by omega)]
 ·apply List.ext_getElem
  ·rw [List.length_tail,qca,qca,List.length_tail]
  ·intro i h1 h2
   rw [qca,List.length_tail] at h2;rw [List.getElem_tail,qea _ _ _ _ _ (by omega),qea _ _ _ _ _ (by rw [List.length_tail];omega),List.getElem_tail]
   have ec:i+1 - (1+B)=i - B:=by omega
   rw [ec]
   by_cases hc:B≤i∧i - B<rows.length∧K.getD (i - B) false=true
   ·rw [if_pos hc,if_pos ⟨by omega,hc.2⟩]
   ·rw [if_neg hc,if_neg (fun h=>hc ⟨by omega,h.2⟩)]
theorem qvj (g S:Nat):∀(l:List (List UInt8)) (m:Nat),m≤S→(∀b∈l,genF b=g→qb2 b≤S∧qeu b≤S)→l.foldl (gmax g) m≤S
 | [],m,hm,_=>hm
 | b::l,m,hm,h=>by
  rw [List.foldl_cons]
  refine qvj g S l _ ?_ (fun c hc=>h c (List.mem_cons_of_mem _ hc))
  unfold gmax
  split
  ·rename_i hb
   have:=h b (List.mem_cons_self ..) hb
   omega
  ·exact hm
theorem qai7 {s:List UInt8} {L:List (List UInt8)} {r:List UInt8} {K:List Bool} (h2:2≤L.length) (h4:L.length≤4096) (hh:qh6 (L.headD [])) (hn:qcm (logW s L) r=0) (hf:(rowB (hdW (logW s L)) r).length≤L.length - 1 - (logW s L).2.2.2.2.2):
  recL (layL L (1+(logW s L).2.2.2.2.2) (rowB (hdW (logW s L)) r) K)=(if allK K (rowB (hdW (logW s L)) r).length then recL L++[r] else recL L)∧
  (logW s (layL L (1+(logW s L).2.2.2.2.2) (rowB (hdW (logW s L)) r) K)).2.2.1=(if allK K (rowB (hdW (logW s L)) r).length then (logW s L).2.2.1+1 else (logW s L).2.2.1)∧
  (logW s (layL L (1+(logW s L).2.2.2.2.2) (rowB (hdW (logW s L)) r) K)).2.2.2.2.2=(if allK K (rowB (hdW (logW s L)) r).length then (logW s L).2.2.2.2.2+(rowB (hdW (logW s L)) r).length else (logW s L).2.2.2.2.2)∧
  (logW s (layL L (1+(logW s L).2.2.2.2.2) (rowB (hdW (logW s L)) r) K)).2.1=(logW s L).2.1∧
  max (logW s (layL L (1+(logW s L).2.2.2.2.2) (rowB (hdW (logW s L)) r) K)).2.2.2.1 (logW s (layL L (1+(logW s L).2.2.2.2.2) (rowB (hdW (logW s L)) r) K)).2.2.2.2.1≤max (logW s L).2.2.2.1 (logW s L).2.2.2.2.1+1:=by
 obtain ⟨e1,e2⟩:=qsc (L:=L) (rows:=rowB (hdW (logW s L)) r) (K:=K) (B:=(logW s L).2.2.2.2.2) (by omega);obtain ⟨g,hg⟩:∃g,g=genF (L.headD []):=⟨_,rfl⟩
 have hgl:g<4294967296:=by rw [hg];exact qm3 _
 obtain ⟨T,hT⟩:∃T,T=L.tail:=⟨_,rfl⟩
 have hlog:logW s L=(s,g,(logO g T).length,endO 0 (logO g T),qb7 g (T.drop (sumO (logO g T))),sumO (logO g T)):=by unfold logW;rw [←hg,←hT]
 have hT1:T.length=L.length - 1:=by rw [hT,List.length_tail]
 obtain ⟨M,hM⟩:∃M,M=max (endO 0 (logO g T)) (qb7 g (T.drop (sumO (logO g T)))):=⟨_,rfl⟩
 have hhd:hdW (logW s L)=(g,(logO g T).length+1,M+1,endO 0 (logO g T)):=by rw [hlog,hM];rfl
 have hn1:r.length≤16384∧M≠4294967295∧frmE (g,(logO g T).length+1,M+1,endO 0 (logO g T)) r=0:=by
  have h9:=hn;unfold qcm at h9;rw [hhd,hlog] at h9
  by_cases a:16384<r.length
  ·rw [if_pos a] at h9;cases h9
  ·rw [if_neg a] at h9
   by_cases b:M=4294967295
   ·rw [if_pos (by rw [←hM];exact b)] at h9;cases h9
   ·rw [if_neg (by rw [←hM];exact b)] at h9
    exact ⟨by omega,b,h9⟩
 have hel:=qj0 g (T.length+1) 1 0 T (by omega);have hel:endO 0 (logO g T)<4294967296:=hel;have hgr:=qpw g (T.drop (sumO (logO g T))) 0 (by omega);have hgr:qb7 g (T.drop (sumO (logO g T)))<4294967296:=hgr
 have hMl:M+1<4294967296:=by have:=hn1.2.1;omega
 rw [hhd,hlog] at hf ⊢;rw [hhd,hlog] at e1 e2;dsimp only at hf e1 e2 ⊢;have htorn:=qaep (keep:=K) hgl hMl (l:=T) (salt:=M+1) (r:=r) (by omega) (by omega) hn1.2.2 (by omega);obtain ⟨rows,hrows⟩:∃rows,rows=rowB (g,(logO g T).length+1,M+1,endO 0 (logO g T)) r:=⟨_,rfl⟩;rw [←hrows] at htorn hf e1 e2 ⊢
 have hgen:genF ((layL L (1+sumO (logO g T)) rows K).headD [])=g:=by rw [e1,hg]
 have hnew:logW s (layL L (1+sumO (logO g T)) rows K)=(s,g,(logO g (layL T (sumO (logO g T)) rows K)).length,endO 0 (logO g (layL T (sumO (logO g T)) rows K)),qb7 g ((layL T (sumO (logO g T)) rows K).drop (sumO (logO g (layL T (sumO (logO g T)) rows K)))),sumO (logO g (layL T (sumO (logO g T)) rows K))):=by
  unfold logW;rw [hgen,e2,←hT]
 have hrec:recL (layL L (1+sumO (logO g T)) rows K)=(logO g (layL T (sumO (logO g T)) rows K)).map (·.1):=by unfold recL;rw [hgen,e2,←hT]
 have hrec0:recL L=(logO g T).map (·.1):=by unfold recL;rw [←hg,←hT]
 have hgm:∀c,sumO (logO g T)≤c→qb7 g ((layL T (sumO (logO g T)) rows K).drop c)≤M+1:=by
  intro c hc;refine qvj g (M+1) _ 0 (Nat.zero_le _) (fun b hb hbg=>?_);obtain ⟨i,hi,rfl⟩:=List.getElem_of_mem hb;rw [List.length_drop,qca] at hi;rw [List.getElem_drop] at hbg ⊢;rw [qea _ _ _ _ _ (by omega)] at hbg ⊢
  by_cases hq:sumO (logO g T)≤c+i∧c+i - sumO (logO g T)<rows.length∧K.getD (c+i - sumO (logO g T)) false=true
  ·rw [if_pos hq]
   have hj:=hq.2.1
   have e9:rows.getD (c+i - sumO (logO g T)) []=rows[c+i - sumO (logO g T)]:=by rw [List.getD_eq_getElem?_getD,List.getElem?_eq_getElem hj];rfl
   rw [e9]
   simp only [hrows,qfv]
   rw [qgi _ _ _ _ hMl,qoh _ _ _ _ hel]
   constructor
   ·exact Nat.le_refl _
   ·show endO 0 (logO g T)≤M+1;omega
  ·rw [if_neg hq] at hbg ⊢
   have hd:=drop_at (T:=T) (a:=sumO (logO g T)) (i:=c+i) (by omega) (by omega) (by rw [List.length_drop];omega);have h9:=qu5 g (T.drop (sumO (logO g T))) (c+i - sumO (logO g T)) (by rw [List.length_drop];omega) (by rw [hd];exact hbg);rw [hd] at h9;omega
 rw [hnew,hrec,hrec0,htorn]
 by_cases hk:allK K rows.length=true
 ·rw [if_pos hk,if_pos hk,if_pos hk,if_pos hk]
  refine ⟨by simp,by simp,by rw [qfa],rfl, ?_⟩;rw [qh3,qfa];refine Nat.le_trans (Nat.max_le.2 ⟨?_, ?_⟩) (show M+1≤_ by rw [hM];exact Nat.le_refl _)
  ·exact Nat.le_refl _
  ·exact hgm _ (by omega)
 ·rw [if_neg hk,if_neg hk,if_neg hk,if_neg hk]
  refine ⟨rfl,rfl,rfl,rfl, ?_⟩;refine Nat.le_trans (Nat.max_le.2 ⟨?_, ?_⟩) (show M+1≤_ by rw [hM];exact Nat.le_refl _)
  ·show endO 0 (logO g T)≤M+1;omega
  ·exact hgm _ (Nat.le_refl _)
structure AppI (f:Fsd) (s:List UInt8) (r:List UInt8):Prop where
 ok:okFs f
 op:qbw f s=0
 wait:f.1.2.1=[]
 done:f.1.2.2.length≤60000
 nx:qcm (qan f s) r=0
 fit:((qb6 (qan f s) r).length:Int)≤behN f (qan f s)
def psW (f:Fsd) (s:List UInt8) (r:List UInt8):List Pu:=pW f s (1+(qan f s).2.2.2.2.2) (qb6 (qan f s) r)
theorem qnb {f:Fsd} {s:List UInt8} (h:qbw f s=0):(qan f s).1=s:=by rw [(qc0 h).2.2.2.1];rfl
theorem qlp {f:Fsd} {s:List UInt8} (h:qbw f s=0):behE f (qan f s)=0∧behN f (qan f s)=((qaf f s).length:Int) - 1 - (qan f s).2.2.2.2.2∧(qan f s).2.2.2.2.2≤(qaf f s).length - 1:=by
 have hn:=qnb h
 have e:behE f (qan f s)=0:=by unfold behE;rw [hn,if_neg (fun e=>e h),if_neg (fun e=>e rfl)]
 refine ⟨e,by unfold behN;rw [if_neg (fun h=>h e),hn], ?_⟩;rw [(qc0 h).2.2.2.1];exact (qp0 s (qaf f s) (qcq _ _)).2.2.2.2
theorem qvk {W:Wl} {r:List UInt8} (h:qcm W r=0):qb6 W r=rowB (hdW W) r∧(qb6 W r).length≤154∧∀b∈qb6 W r,b.length=128:=by
 have e:qb6 W r=rowB (hdW W) r:=by unfold qb6;rw [if_neg (fun e=>e h)]
 have hr:r.length≤16384:=by
  unfold qcm at h
  split at h
  ·cases h
  ·omega
 refine ⟨e,by rw [e,qdv];exact qjx _ hr, ?_⟩;rw [e];intro b hb;obtain ⟨i,hi,rfl⟩:=List.getElem_of_mem hb
 rw [qfv];exact qaah _ _ _ _
theorem qabo {f:Fsd} {s r:List UInt8} (h:AppI f s r):appX f (qan f s) r=(zW f (psW f s r),0)∧okFs (zW f (psW f s r))∧(∀p∈psW f s r,putE (mny f.1) p=0∧34≤p.1)∧(psW f s r).length≤154∧(psW f s r).length=(qb6 (qan f s) r).length:=by
 obtain ⟨b1,b2,b3⟩:=qlp h.op;obtain ⟨n1,n2,n3⟩:=qvk h.nx;obtain ⟨o1,o2,_⟩:=qc0 h.op;have hfit:=h.fit;rw [b2] at hfit
 have hat:1+(qan f s).2.2.2.2.2+(qb6 (qan f s) r).length≤(bloL f s).length:=by rw [←qdg o1];omega
 have hpl:=qr3 f s (1+(qan f s).2.2.2.2.2) (qb6 (qan f s) r);have hput:=qu9 h.ok o1 n3 hat (by rw [h.wait];simp;omega) (by have:=h.done;omega) _ (Nat.le_refl _)
 have htk:(pW f s (1+(qan f s).2.2.2.2.2) (qb6 (qan f s) r)).take (qb6 (qan f s) r).length=psW f s r:=by
  unfold psW;rw [List.take_of_length_le (by omega)]
 rw [htk] at hput;have hlen:(psW f s r).length=(qb6 (qan f s) r).length:=hpl;obtain ⟨s1,s2⟩:=qaet hput.2 (by rw [hlen];have:=h.done;omega);refine ⟨?_,s2,pW_in o1 n3 hat,by omega,hlen⟩;unfold appX;rw [if_neg (fun e=>e b1),if_neg (fun e=>e h.nx),if_neg (by rw [b2];omega),qnb h.op]
 have ei:1+((qan f s).2.2.2.2.2:Int)=((1+(qan f s).2.2.2.2.2:Nat):Int):=by omega
 rw [ei];unfold qfb;rw [hput.1];dsimp only;rw [if_neg (by simp),s1,if_neg (by simp)]
theorem qvl {f z:Fsd} {s r:List UInt8} {K:List Bool} {A:List Ac} (h:AppI f s r) (hz:qay z s=0) (hb:bloL z s=bloL f s) (hd:z.1=(qcj f.1.1 (kept (psW f s r) K),[],A)):
  qbw z s=0∧qdf z s=(if allK K (psW f s r).length then qdf f s++[r] else qdf f s)∧
  (qan z s).2.2.1=(if allK K (psW f s r).length then (qan f s).2.2.1+1 else (qan f s).2.2.1)∧
  (qan z s).2.2.2.2.2=(if allK K (psW f s r).length then (qan f s).2.2.2.2.2+(psW f s r).length else (qan f s).2.2.2.2.2)∧
  (qan z s).2.1=(qan f s).2.1∧max (qan z s).2.2.2.1 (qan z s).2.2.2.2.1≤max (qan f s).2.2.2.1 (qan f s).2.2.2.2.1+1∧(qaf z s).length=(qaf f s).length:=by
 obtain ⟨b1,b2,b3⟩:=qlp h.op;obtain ⟨n1,n2,n3⟩:=qvk h.nx;obtain ⟨o1,o2,o3,o4,o5⟩:=qc0 h.op;have hlen:=(qabo h).2.2.2.2;have hfit:=h.fit;rw [b2] at hfit
 have hat:1+(qan f s).2.2.2.2.2+(qb6 (qan f s) r).length≤(bloL f s).length:=by rw [←qdg o1];omega
 have hbl:=qaay (K:=K) (A:=A) o1 n3 hat h.wait hz hb hd
 have hbz:(qaf z s).length=(qaf f s).length:=by rw [hbl,qca]
 have hlay:=qai7 (s:=s) (L:=qaf f s) (r:=r) (K:=K) o2 (qcq _ _) o3 (by rw [←o4];exact h.nx) (by rw [←o4,←n1];omega);rw [←o4,←n1] at hlay;have hhd:=(qsc (L:=qaf f s) (rows:=qb6 (qan f s) r) (K:=K) (B:=(qan f s).2.2.2.2.2) (by omega)).1;have hop:qbw z s=0:=qln hz (by rw [hbz];exact o2) (by rw [hbl,hhd];exact o3);obtain ⟨_,_,_,p4,p5⟩:=qc0 hop;rw [p4,p5,hbl,hlen,o5];refine ⟨hop,hlay.1,hlay.2.1,hlay.2.2.1,hlay.2.2.2.1,hlay.2.2.2.2,qca _ _ _ _⟩
theorem qsd:∀(ps:List Pu) (d:Dk),d.2.1.length+ps.length≤65536→d.2.2.length+ps.length≤65536→qa7 d (acW ps)=some (d.1,d.2.1++ps,d.2.2++acW ps)
 | [],d,_,_=>by simp [qa7,acW]
 | p::ps,d,h1,h2=>by
  rw [List.length_cons] at h1 h2
  have e1:oneD d (false,p)=some (d.1,d.2.1++[p],d.2.2++[(false,p)]):=by
   unfold oneD;rw [if_neg (by show ¬(65536≤d.2.2.length∨(false=false∧65536≤d.2.1.length));omega),if_neg (by simp)]
  have e2:acW (p::ps)=(false,p)::acW ps:=rfl;rw [e2,qa7,e1];have ih:=qsd ps (d.1,d.2.1++[p],d.2.2++[(false,p)]) (by simp;omega) (by simp;omega)
  show qa7 (d.1,d.2.1++[p],d.2.2++[(false,p)]) (acW ps)=_
  rw [ih]
  simp
theorem qvm (n:Nat):allK (List.replicate n true) n=true:=by
 rw [qpx];intro i hi
 rw [List.getD_eq_getElem?_getD,List.getElem?_replicate,if_pos hi];rfl
theorem qabp {f:Fsd} (hW:f.1.2.1=[]) (ps:List Pu):(zW f ps).1=(qcj f.1.1 (kept ps (List.replicate ps.length true)),[],f.1.2.2++acW ps++[(true,0,[])]):=by
 unfold zW
 rw [hW,qvb];rfl
theorem qabq {d:Dk} (h:d.2.2.length<65536):qa7 d [(true,0,[])]=some (qcj d.1 d.2.1,[],d.2.2++[(true,0,[])]):=by
 rw [qeh];unfold oneD;rw [if_neg (by show ¬(65536≤d.2.2.length∨(true=false∧_));simp;omega),if_pos rfl]
theorem qae8 {f:Fsd} {ps:List Pu} (hok:okFs f) (hW:f.1.2.1=[]) (hA:f.1.2.2=[]) (hps:∀p∈ps,putE (mny f.1) p=0∧34≤p.1) (hn:ps.length≤60000) (hg:okFs (zW f ps)) (many:Int) (K:List Bool):
  ((many<0∨((ps.length+1:Nat):Int)<many)∧qei f (zW f ps) many K=(dz,2))∨
  (0≤many∧many≤((ps.length+1:Nat):Int)∧∃K':List Bool,qei f (zW f ps) many K=((qcj f.1.1 (kept ps K'),[],[]),0)∧okFs ((qcj f.1.1 (kept ps K'),[],[]),f.2.1,f.2.2.2,f.2.2.2)∧qdy (qcj f.1.1 (kept ps K'),[],[])=(((qcj f.1.1 (kept ps K'),[],[]),f.2.1,f.2.2.2,f.2.2.2),0)∧(many=((ps.length+1:Nat):Int)→allK K' ps.length=true)):=by
 have hd:=(qap hok).1
 have hacts:(zW f ps).1.2.2=acW ps++[(true,0,[])]:=by unfold zW;rw [hA];rfl
 have hal:(acW ps++[((true,0,[]):Ac)]).length=ps.length+1:=by rw [List.length_append,qjb];rfl
 have hact:∀a∈acW ps++[((true,0,[]):Ac)],actE (mny f.1) a=0:=by
  intro a ha
  rcases List.mem_append.1 ha with ha | ha
  ·unfold acW at ha
   obtain ⟨p,hp,rfl⟩:=List.mem_map.1 ha;exact (hps p hp).1
  ·rw [List.mem_singleton.1 ha];exact qby _
 have hwr:∀j,j≤ps.length→qa7 f.1 (acW (ps.take j))=some (f.1.1,ps.take j,acW (ps.take j)):=by
  intro j hj
  have:=qsd (ps.take j) f.1 (by rw [hW,List.length_take];simp;omega) (by rw [hA,List.length_take];simp;omega)
  rw [this,hW,hA];rfl
 have hall:qa7 f.1 (acW ps++[(true,0,[])])=some (zW f ps).1:=by
  have h1:=hwr ps.length (Nat.le_refl _);rw [List.take_length] at h1;rw [qb5,h1]
  show qa7 (f.1.1,ps,acW ps) [(true,0,[])]=_
  rw [qabq (by show (acW ps).length<65536;rw [qjb];omega)]
  unfold zW;rw [hW,hA];rfl
 have e0:doD f.1 (acW ps++[(true,0,[])]) ((acW ps++[((true,0,[]):Ac)]).length:Nat)=((zW f ps).1,0):=qx6 (m:=(acW ps++[((true,0,[]):Ac)]).length) hd hact (Nat.le_refl _) (by rw [List.take_length];exact hall)
 have e1:qei f (zW f ps) many K=if many<0∨((ps.length+1:Nat):Int)<many then (dz,2) else qec (doD f.1 (acW ps++[(true,0,[])]) many).1 K:=by
  unfold qei;rw [hacts,if_neg (by rw [qdx hok,qdx hg,hA];simp),if_neg (by rw [e0];simp),hal]
 by_cases hm:many<0∨((ps.length+1:Nat):Int)<many
 ·rw [if_pos hm] at e1
  exact .inl ⟨hm,e1⟩
 ·rw [if_neg hm] at e1
  obtain ⟨j,rfl⟩:∃j:Nat,many=j:=⟨many.toNat,by omega⟩;refine .inr ⟨by omega,by omega, ?_⟩
  by_cases hj:j≤ps.length
  ·have htk:(acW ps++[((true,0,[]):Ac)]).take j=acW (ps.take j):=by
    rw [List.take_append_of_le_length (by rw [qjb];exact hj),qaes]
   have hy:=hwr j hj
   have hya:∀a∈acW (ps.take j),actE (mny f.1) a=0:=fun a ha=>hact a (by rw [←htk] at ha;exact List.mem_of_mem_take ha)
   obtain ⟨y1,y2,_⟩:=qoz _ _ _ hd hya hy;have e2:doD f.1 (acW ps++[(true,0,[])]) j=((f.1.1,ps.take j,acW (ps.take j)),0):=qx6 (m:=j) hd hact (by rw [hal];omega) (by rw [htk];exact hy)
   have e3:qec (f.1.1,ps.take j,acW (ps.take j)) K=(qm1 (f.1.1,ps.take j,acW (ps.take j)) K,0):=by unfold qec;rw [if_neg (by rw [qfr y1];decide)]
   have e4:qm1 (f.1.1,ps.take j,acW (ps.take j)) K=(qcj f.1.1 (kept ps (K.take j)),[],[]):=by
    show (qcj f.1.1 (kept (ps.take j) K),[],[])=_
    rw [qva]
   obtain ⟨z1,z2⟩:=qrt (f:=f) (y:=(f.1.1,ps.take j,acW (ps.take j))) K hok y1 y2 (fun _ _=>rfl) (by
    intro p hp hs
    have:=(hps p (List.mem_of_mem_take hp)).2
    unfold qm2 at hs
    omega)
   rw [e4] at z1 z2;rw [e2,e3,e4] at e1;exact ⟨K.take j,e1,z1,z2,fun h=>by omega⟩
  ·obtain rfl:j=ps.length+1:=by omega
   have e2:doD f.1 (acW ps++[(true,0,[])]) ((ps.length+1:Nat):Int)=((zW f ps).1,0):=by rw [←hal];exact e0
   have hdz:=(qap hg).1
   have e3:qec (zW f ps).1 K=(qm1 (zW f ps).1 K,0):=by unfold qec;rw [if_neg (by rw [qfr hdz];decide)]
   have e4:qm1 (zW f ps).1 K=(qcj f.1.1 (kept ps (List.replicate ps.length true)),[],[]):=by
    rw [qabp hW]
    show (qcj _ (kept [] K),[],[])=_
    have:kept [] K=[]:=by cases K<;>rfl
    rw [this];rfl
   obtain ⟨z1,z2⟩:=qaaf K hg;rw [e4] at z1 z2;rw [e2,e3,e4] at e1;exact ⟨List.replicate ps.length true,e1,z1,z2,fun _=>qvm _⟩
theorem qabr {f:Fsd} {s r:List UInt8} (h:AppI f s r):∃z:Fsd,z=zW f (psW f s r)∧appW f (qan f s) r=(z,qan z s,0)∧okFs z∧qbw z s=0∧qdf z s=qdf f s++[r]∧(qan z s).2.2.1=(qan f s).2.2.1+1∧(qan z s).2.2.2.2.2=(qan f s).2.2.2.2.2+(psW f s r).length∧(qan z s).2.1=(qan f s).2.1∧max (qan z s).2.2.2.1 (qan z s).2.2.2.2.1≤max (qan f s).2.2.2.1 (qan f s).2.2.2.2.1+1∧(qaf z s).length=(qaf f s).length∧z.2=f.2∧z.1.2.1=[]∧z.1.2.2.length=f.1.2.2.length+(psW f s r).length+1:=by
 obtain ⟨a1,a2,a3,a4,a5⟩:=qabo h;obtain ⟨o1,_⟩:=qc0 h.op
 have hz:qay (zW f (psW f s r)) s=0:=by rw [qio (f:=f) (g:=zW f (psW f s r)) rfl h.ok a2];exact o1
 obtain ⟨k1,k2,k3,k4,k5,k6,k7⟩:=qvl (z:=zW f (psW f s r)) (K:=List.replicate (psW f s r).length true) (A:=f.1.2.2++acW (psW f s r)++[(true,0,[])]) h hz (qh1 (f:=f) (g:=zW f (psW f s r)) rfl s).1 (qabp h.wait _);rw [qvm,if_pos rfl] at k2 k3 k4;refine ⟨_,rfl, ?_,a2,k1,k2,k3,k4,k5,k6,k7,rfl,rfl, ?_⟩
 ·unfold appW
  rw [a1];dsimp only;rw [if_neg (by simp),qnb h.op,k1]
 ·show (f.1.2.2++acW (psW f s r)++[(true,0,[])]).length=_
  rw [List.length_append,List.length_append,qjb];rfl
theorem qabs {f:Fsd} {s:List UInt8} (r:List UInt8) (hok:okFs f) (hop:qbw f s=0) (hw:f.1.2.1=[]) (hd:f.1.2.2.length≤60000):
  AppI f s r∨(appW f (qan f s) r=(fz,wz,3)∧16384<r.length)∨(appW f (qan f s) r=(fz,wz,9)∧max (qan f s).2.2.2.1 (qan f s).2.2.2.2.1=4294967295)∨(appW f (qan f s) r=(fz,wz,90)∧behN f (qan f s)<((qb6 (qan f s) r).length:Int)∧qcm (qan f s) r=0):=by
 obtain ⟨b1,b2,b3⟩:=qlp hop
 by_cases h1:16384<r.length
 ·refine .inr (.inl ⟨?_,h1⟩)
  have e:qcm (qan f s) r=3:=by unfold qcm;rw [if_pos h1]
  have ex:appX f (qan f s) r=(fz,3):=by unfold appX;rw [if_neg (fun e=>e b1),if_pos (by rw [e];decide),e]
  unfold appW;rw [ex,if_pos (by show ¬(3:Int)=0;decide)]
 ·by_cases h2:max (qan f s).2.2.2.1 (qan f s).2.2.2.2.1=4294967295
  ·refine .inr (.inr (.inl ⟨?_,h2⟩))
   have e:qcm (qan f s) r=9:=by unfold qcm;rw [if_neg h1,if_pos h2]
   have ex:appX f (qan f s) r=(fz,9):=by unfold appX;rw [if_neg (fun e=>e b1),if_pos (by rw [e];decide),e]
   unfold appW;rw [ex,if_pos (by show ¬(9:Int)=0;decide)]
  ·have hg:(qan f s).2.1≠0:=by
    rw [(qc0 hop).2.2.2.1];exact (qc0 hop).2.2.1.1
   have e:qcm (qan f s) r=0:=by
    unfold qcm;rw [if_neg h1,if_neg h2]
    generalize qan f s=W at *;exact qaaj (h:=hdW W) hg (Nat.succ_ne_zero _) (by omega)
   by_cases h3:behN f (qan f s)<((qb6 (qan f s) r).length:Int)
   ·refine .inr (.inr (.inr ⟨?_,h3,e⟩))
    have ex:appX f (qan f s) r=(fz,90):=by unfold appX;rw [if_neg (fun e=>e b1),if_neg (fun h=>h e),if_pos h3]
    unfold appW;rw [ex,if_pos (by show ¬(90:Int)=0;decide)]
   ·exact .inl ⟨hok,hop,hw,hd,e,by omega⟩
def ComI (f:Fsd) (s:List UInt8):Prop:=∃l,(s,l)∈f.2.2.1∧(s,l)∈f.2.2.2
theorem qae9 {f:Fsd} {s r:List UInt8} (h:AppI f s r) (hA:f.1.2.2=[]) (hC:ComI f s) (many:Int) (K:List Bool):
  ((many<0∨((zW f (psW f s r)).1.2.2.length:Int)<many)∧qei f (zW f (psW f s r)) many K=(dz,2))∨
  (0≤many∧many≤((zW f (psW f s r)).1.2.2.length:Int)∧∃z:Fsd,qei f (zW f (psW f s r)) many K=(z.1,0)∧qdy z.1=(z,0)∧okFs z∧z.1.2.1=[]∧z.1.2.2=[]∧ComI z s∧qbw z s=0∧(qdf z s=qdf f s∨qdf z s=qdf f s++[r])∧(many=((zW f (psW f s r)).1.2.2.length:Int)→qdf z s=qdf f s++[r])∧max (qan z s).2.2.2.1 (qan z s).2.2.2.2.1≤max (qan f s).2.2.2.1 (qan f s).2.2.2.2.1+1∧(qaf z s).length=(qaf f s).length):=by
 obtain ⟨a1,a2,a3,a4,a5⟩:=qabo h
 have hlen:(zW f (psW f s r)).1.2.2.length=(psW f s r).length+1:=by
  show (f.1.2.2++acW (psW f s r)++[(true,0,[])]).length=_
  rw [List.length_append,List.length_append,qjb,hA];simp
 rw [hlen]
 rcases qae8 h.ok h.wait hA a3 (by omega) a2 many K with h1 | ⟨m1,m2,K',t1,t2,t3,t4⟩
 ·exact .inl h1
 ·refine .inr ⟨m1,m2,((qcj f.1.1 (kept (psW f s r) K'),[],[]),f.2.1,f.2.2.2,f.2.2.2),t1,t3,t2,rfl,rfl, ?_⟩
  obtain ⟨l,l1,l2⟩:=hC;obtain ⟨b1,b2,b3⟩:=qxg (s:=s) h.ok l1 l2 t2;obtain ⟨k1,k2,k3,k4,k5,k6,k7⟩:=qvl (K:=K') (A:=[]) h b2 b3 rfl;refine ⟨⟨l,l2,l2⟩,k1, ?_, ?_,k6,k7⟩
  ·rw [k2];split
   ·exact .inr rfl
   ·exact .inl rfl
  ·intro hm;rw [k2,if_pos (t4 hm)]
theorem qvn {n:Int} (h1:34<n) (h2:n≤4096):∃x:List UInt8,qcu n=(((x,[],[]),1,[],[]),0)∧okFs ((x,[],[]),1,[],[])∧mny (x,[],[])=n.toNat∧∀k,34≤k→k<n.toNat→blk x k=List.replicate 128 0:=by
 have hn:(newD n).2=0:=by unfold newD;rw [if_neg (by omega)]
 obtain ⟨a,b,c,d,e⟩:=qzz hn h1;have hs:=qmt hn h1
 have hno:qa7 (newD n).1 (qf5 1 [0])≠none:=by
  rw [e]
  simp [qf5,qet,qbh,qa7,oneD]
 cases ho:qa7 (newD n).1 (qf5 1 [0]) with
 | none=>exact absurd ho hno
 | some x=>
  rw [ho] at hs;have hs:qb1 (((newD n).1,0,[],[]),0,[])=((x,1,[],[]),0,[0]):=hs
  have hz:qcg (newD n).1 (0 % 2)=(0,0):=by
   have hb:blk (newD n).1.1 0=List.replicate 128 0:=by
    rw [e];unfold blk;rw [List.drop_zero,List.take_replicate,Nat.min_eq_left (by omega)]
   unfold qcg;rw [hb,qad9];rfl
  have hx:=qrq (D:=[]) (g:=0) a b (by rw [e];intro p hp;cases hp) (by exact qz1 b (by omega)) (by decide) (by rw [hz];exact Nat.le_refl 0) (by rw [qz0];exact ho);obtain ⟨o1,o2,o3,o4⟩:=qkl a b (by decide:(1:Nat)≠0) (by simp:([0]:List UInt8).length≤2048) ho
  have hcl:okD (x.1,[],[])=true:=by
   obtain ⟨p1,p2,p3,p4,p5,p6,p7⟩:=(qcb x).1 o1;exact (qcb _).2 ⟨p1,p2,p3,by simp,by simp,by simp,by simp⟩
  refine ⟨x.1, ?_, ?_, ?_, ?_⟩
  ·unfold qcu
   rw [if_neg (by rw [hn];decide),if_neg (by omega),hs]
   have e2:qfp x=((x.1,[],[]),0):=by unfold qfp;rw [if_neg (by rw [qfr o1];decide),o3]
   unfold qai;rw [if_pos rfl];unfold qfu ql9 endW
   simp only [e2]
   rfl
  ·have:=qmv (f:=(x,0+1,[],[])) (d:=(x.1,[],[])) (D:=[]) hx hcl rfl (fun k _=>rfl) (by intro p hp;cases hp) hx.2.2.2.2.2
   exact this
  ·rw [←c,←o2];rfl
  ·intro k hk1 hk2
   have hwl:(qbh [0]).length=1:=by kernel_rfl
   rw [o4 k (by omega),if_neg (by omega),if_neg (by rw [hwl];omega),qcw a (by omega),e]
   show blk (List.replicate (n.toNat*128) 0) k=_
   exact qae5 (by omega)
theorem qse:∀(l:List Ac) (d:Dk),d.2.1.length+l.length≤65536→d.2.2.length+l.length≤65536→∃x,qa7 d l=some x∧x.2.2=d.2.2++l
 | [],d,_,_=>⟨d,rfl,by simp⟩
 | a::l,d,h1,h2=>by
  rw [List.length_cons] at h1 h2
  obtain ⟨y,e,hw,hd⟩:∃y,oneD d a=some y∧y.2.1.length≤d.2.1.length+1∧y.2.2=d.2.2++[a]:=by
   unfold oneD;rw [if_neg (by omega)];cases a.1
   ·exact ⟨_,rfl,by simp,rfl⟩
   ·exact ⟨_,rfl,by simp,rfl⟩
  obtain ⟨x,hx,hx2⟩:=qse l y (by omega) (by rw [hd,List.length_append,List.length_singleton];omega);refine ⟨x, ?_,by rw [hx2,hd];simp⟩;rw [qa7,e];exact hx
theorem qnc {g:Nat} {l:List UInt8} (h:l.length≤2048):(qf5 g l).length≤20:=by
 have hw:∀(bl:List (List UInt8)) (n:Int),(qet n bl).length=bl.length:=by
  intro bl
  induction bl with
  | nil=>intro n;rfl
  | cons b bl ih=>intro n;simp [qet,ih]
 unfold qf5;rw [List.length_cons,List.length_append,hw,qcv]
 simp
 omega
theorem qafa {y:Fsd} (hok:okFs y) (hg:y.2.1≠4294967295) (hw:y.1.2.1.length≤60000) (hd:y.1.2.2.length≤60000):∃h:Fsd,qct y=(h,0)∧okFs h∧h.2.2.1=y.2.2.1∧h.2.2.2=y.2.2.1∧h.1.2.1=[]∧h.1.2.2.length≤y.1.2.2.length+20∧Like y h []:=by
 have hb:(bytF y.2.2.1).length≤2048:=(qb4 hok.2.2.2.2.2).2.2.2.2;obtain ⟨x,hx,hx2⟩:=qse (qf5 (y.2.1+1) (bytF y.2.2.1)) y.1 (by have:=qnc (g:=y.2.1+1) hb;omega) (by have:=qnc (g:=y.2.1+1) hb;omega)
 have e:qct y=((x,y.2.1+1,y.2.2.1,y.2.2.1),0):=by
  rw [qri];unfold qad4
  rw [if_neg (by rw [qdx hok];simp),if_neg hg,hx]
 obtain ⟨x',c1,c2,c3,c4,c5,c6⟩:=qww hok (by rw [e]);rw [e] at c1
 have:x=x':=by
  have:=congrArg (fun q:Fsd × Int=>q.1.1) c1
  exact this
 subst this;exact ⟨_,e,c2,rfl,rfl,c3,by show x.2.2.length≤_;rw [hx2,List.length_append];have:=qnc (g:=y.2.1+1) hb;omega,c6⟩
def logN:List UInt8:=[108,111,103]
def qabt (N n:Int):Bool:=decide (qbg [] logN=6) && decide (qem 34 N [] n=0) && decide (qa8 [] logN (qcr 34 N [] n) N=0)
theorem qai8:qabt 64 4=true:=by kernel_rfl
theorem qai9:(List.range 39).all (fun k=>qabt 80 ((k:Nat)+2:Int))=true:=by kernel_rfl
theorem qsf:∀(l:List (List UInt8)),(∀b∈l,genF b=0)→qcz l=0
 | [],_=>rfl
 | b::l,h=>by
  have ih:=qsf l (fun c hc=>h c (List.mem_cons_of_mem _ hc));unfold qcz at ih ⊢;rw [List.foldl_cons,h b (List.mem_cons_self ..)];exact ih
theorem qabu:genF (List.replicate 128 0)=0:=by kernel_rfl
structure LogI (f:Fsd) (s:List UInt8) (n:Nat):Prop where
 ok:okFs f
 wait:f.1.2.1=[]
 done:f.1.2.2.length≤1000
 com:ComI f s
 op:qbw f s=0
 len:(qaf f s).length=n
def wl1:Wl:=(logN,1,0,0,0,0)
theorem qvo {N n:Int} (h1:34<N) (h2:N≤4096) (hn:2≤n) (hn4:n≤4096) (hk:qabt N n=true):∃F y h:Fsd,qcu N=(F,0)∧okFs F∧F.2.2.1=[]∧newW F logN n=(y,wl1,0)∧okFs y∧qct y=(h,0)∧LogI h logN n.toNat∧qan h logN=wl1∧qdf h logN=[]:=by
 obtain ⟨x,f1,f2,f3,f4⟩:=qvn h1 h2
 obtain ⟨⟨k1,k2⟩,k3⟩:(qbg [] logN=6∧qem 34 N [] n=0)∧qa8 [] logN (qcr 34 N [] n) N=0:=by
  unfold qabt at hk
  simpa using hk
 obtain ⟨F,hF⟩:∃F:Fsd,F=((x,[],[]),1,[],[]):=⟨_,rfl⟩;rw [←hF] at f1 f2
 have hmF:qa9 F=N:=by
  rw [qij (qap f2).1,hF]
  show ((mny ((x,[],[]):Dk):Nat):Int)=N
  rw [f3];omega
 have hu:qa5 F=[]:=by rw [hF];kernel_rfl
 have hmk:mkE F logN n=0:=by
  unfold mkE
  have e9:F.2.2.1=[]:=by rw [hF]
  rw [e9,hmF,hu,k1,if_neg (by decide),if_neg (by decide),k2,if_neg (by simp),k3]
 have hcr:(qa6 F logN n).2=0:=by unfold qa6;rw [hmk,qah4 (qdx f2)]
 obtain ⟨c0,c1,c2,c3,c4,_⟩:=qkn hcr;obtain ⟨D,hD⟩:∃D:Fsd,D=(qa6 F logN n).1:=⟨_,rfl⟩
 have eD:D=(F.1,F.2.1,mkL F logN n,F.2.2.2):=by rw [hD,c1]
 have cD:okFs D∧qay D logN=0∧qk5 D logN=n:=by rw [eD];exact ⟨c2,c3,c4⟩
 have hD1:D.1=(x,[],[]):=by rw [eD,hF]
 have hD2:D.2.1=1:=by rw [eD,hF]
 have hlenD:((qaf D logN).length:Int)=n:=by rw [←qj2 cD.2.1];exact cD.2.2
 have hmost:qcz (qaf D logN)=0:=by
  refine qsf _ (fun b hb=>?_);obtain ⟨i,hi,rfl⟩:=List.getElem_of_mem hb
  have hi':i<(bloL D logN).length:=by rw [←qdg cD.2.1];exact hi
  rw [qis cD.2.1 hi hi'];have hr:=qcy cD.2.1 _ (List.getElem_mem hi');rw [hD1] at hr ⊢;rw [f3] at hr
  show genF (blk x _)=0
  rw [f4 _ (by omega) (by omega),qabu]
 obtain ⟨p1,p2⟩:=qaax (f:=D) (s:=logN) (i:=0) (b:=headW 1) cD.1 cD.2.1 (by rw [←qdg cD.2.1];omega) (qr0 1) (by rw [hD1];simp) (by rw [hD1];simp);obtain ⟨y,hy⟩:∃y:Fsd,y=yW D [((bloL D logN)[0]'(by rw [←qdg cD.2.1];omega),headW 1)]:=⟨_,rfl⟩;rw [←hy] at p1 p2
 have hnew:newW F logN n=(y,wl1,0):=by
  unfold newW;rw [if_neg (by rw [qdx f2];simp),if_neg (by omega),if_neg (by rw [hcr];simp),←hD,hmost,if_neg (by decide)];have p1:qcs D logN 0 (headW (0+1))=(y,0):=p1;rw [p1,if_neg (by simp)];rfl
 obtain ⟨y',g,n1,n2,n3,n4,n5,n6,n7,n8,n9,n10,n11⟩:=new_ok (f:=F) (s:=logN) (n:=n) (by rw [hnew]);rw [hnew] at n1;have ey:y'=y:=(congrArg (fun q:Fw=>q.1) n1).symm
 have eg:g=1:=by have:=congrArg (fun q:Fw=>q.2.1.2.1) n1;exact this.symm
 rw [ey] at n3 n4 n5 n6 n7 n8;rw [eg] at n6
 have hy1:y.1.2.1.length=1∧y.1.2.2.length=1∧y.2.1=1:=by
  rw [hy];unfold yW acW;rw [hD1];exact ⟨rfl,rfl,hD2⟩
 obtain ⟨h,m1,m2,m3,m4,m5,m6,m7⟩:=qafa (y:=y) n3 (by rw [hy1.2.2];decide) (by omega) (by omega);obtain ⟨b1,b2⟩:=qabm m7 n4;obtain ⟨o1,o2,o3⟩:=qr9 n4 b1 b2;obtain ⟨_,l,hl⟩:=qcx n4;refine ⟨F,y,h,f1,f2,by rw [hF],hnew,n3,m1,⟨m2,m5,by omega,⟨l,by rw [m3];exact hl,by rw [m4];exact hl⟩,by rw [o1];exact n5,by rw [b2];omega⟩,by rw [o2,n6];rfl,by rw [o3,n7]⟩
theorem OwFs.rdx {w:World} {base:Nat} {x:FsV} {f:Fsd} (h:OwFs w base x.val f):RdX w x f:=by
 obtain ⟨x',ex',hx'⟩:=h.form;have e:x'=x:=FsV.ext_val ex'.symm;subst e;exact hx'
end Go.Proofs.YtnmbbpdhjkaidaaGreat
