/-
  Plain mathematics of a log's file: the words.
-/
import Derived.Test.YtnmbbpdhjkaidaaGreatFr4
import Derived.Test.YtnmbbpdhjkaidaaGreatMathFr
import Derived.Test.YtnmbbpdhjkaidaaGreatMathFr2
set_option maxHeartbeats 1000000
set_option maxRecDepth 100000
namespace Go.Proofs.YtnmbbpdhjkaidaaGreat
open Go.RowKit
set_option linter.all false
def RdL (w:World) (v:Value) (ls:List (List UInt8)):Prop:=
 (ls=[]∧(v=.slice none 0 0∨∃a c,v=.slice (some a) 0 c))∨
 ∃b off c,v=.slice (some ⟨b,off,none⟩) ls.length c∧ls.length≤c∧c≤maxLen∧∀j,(h:j<ls.length)→∃y z,w.cell? ⟨b,off+j,none⟩=some (.slice y (ls[j]).length z)∧Rd w (.slice y (ls[j]).length z) ls[j]
theorem RdL.carry {w w':World} {v:Value} {l:List (List UInt8)} (h:RdL w v l) (hb:Below w.heap.size w w'):RdL w' v l:=by
 rcases h with h | ⟨b,off,c,rfl,hc,hm,hcell⟩
 ·exact .inl h
 ·refine .inr ⟨b,off,c,rfl,hc,hm,fun j hj=>?_⟩
  obtain ⟨y,z,h1,h2⟩:=hcell j hj;exact ⟨y,z,qaa _ _ _ _ h1 hb,h2.carry hb⟩
theorem RdL.at {w:World} {a:Option Addr} {n c:Nat} {l:List (List UInt8)} (h:RdL w (.slice a n c) l) (j:Nat) (hj:j<l.length):∃b off y z,a=some ⟨b,off,none⟩∧w.cell? ⟨b,off+j,none⟩=some (.slice y (l[j]).length z)∧Rd w (.slice y (l[j]).length z) l[j]:=by
 rcases h with ⟨rfl,_⟩ | ⟨b,off,c',e,_,_,hc⟩
 ·simp at hj
 ·cases e
  obtain ⟨y,z,h1,h2⟩:=hc j hj;exact ⟨b,off,y,z,rfl,h1,h2⟩
theorem RdL.le {w:World} {a:Option Addr} {n c:Nat} {l:List (List UInt8)} (h:RdL w (.slice a n c) l):n=l.length∧n≤c∧n≤maxLen:=by
 rcases h with ⟨rfl,h | ⟨ad,c',h⟩⟩ | ⟨b,off,c',h,h1,h2,h3⟩
 ·cases h;exact ⟨rfl,Nat.le_refl _,Nat.zero_le _⟩
 ·cases h;exact ⟨rfl,Nat.zero_le _,Nat.zero_le _⟩
 ·cases h;exact ⟨rfl,h1,Nat.le_trans h1 h2⟩
theorem RdL.take {w:World} {a:Option Addr} {n c:Nat} {l:List (List UInt8)} (h:RdL w (.slice a n c) l) (k:Nat) (hk:k≤l.length):RdL w (.slice a k c) (l.take k):=by
 rcases h with ⟨rfl,h | ⟨ad,c',h⟩⟩ | ⟨b,off,c',h,h1,h2,h3⟩
 ·cases h
  obtain rfl:k=0:=by simpa using hk
  exact .inl ⟨by simp,.inl rfl⟩
 ·cases h
  obtain rfl:k=0:=by simpa using hk
  exact .inl ⟨by simp,.inr ⟨_,_,rfl⟩⟩
 ·cases h
  have hl:(l.take k).length=k:=by rw [List.length_take];omega
  refine .inr ⟨b,off,c,by rw [hl],by rw [hl];omega,h2,fun j hj=>?_⟩;rw [hl] at hj;obtain ⟨y,z,e1,e2⟩:=h3 j (by omega);rw [List.getElem_take];exact ⟨y,z,e1,e2⟩
theorem RdL.cut {w:World} {a:Option Addr} {n c:Nat} {l:List (List UInt8)} (h:RdL w (.slice a n c) l) (k:Nat) (hk:k≤l.length):(n≤c)∧((c=k∧k=n∧RdL w (.slice a 0 0) (l.drop k))∨(∃b off,a=some ⟨b,off,none⟩∧¬c=k∧RdL w (.slice (some ⟨b,off+k,none⟩) (n - k) (c - k)) (l.drop k))∨(∃ad,a=some ad∧n=0∧k=0∧¬c=k∧l=[])):=by
 obtain ⟨hn,hnc,_⟩:=h.le;subst hn;refine ⟨hnc, ?_⟩
 rcases h with ⟨rfl,h | ⟨ad,c',h⟩⟩ | ⟨b,off,c',h,h1,h2,h3⟩
 ·cases h
  obtain rfl:k=0:=by simpa using hk
  exact .inl ⟨rfl,rfl,.inl ⟨rfl,.inl rfl⟩⟩
 ·cases h
  obtain rfl:k=0:=by simpa using hk
  by_cases hc:c=0
  ·exact .inl ⟨hc,rfl,.inl ⟨rfl,.inr ⟨_,_,rfl⟩⟩⟩
  ·exact .inr (.inr ⟨_,rfl,rfl,rfl,hc,rfl⟩)
 ·cases h
  by_cases hc:c=k
  ·obtain rfl:k=l.length:=by omega
   exact .inl ⟨hc,rfl,.inl ⟨by rw [List.drop_length],.inr ⟨_,_,rfl⟩⟩⟩
  ·refine .inr (.inl ⟨b,off,rfl,hc, ?_⟩)
   by_cases hkl:k=l.length
   ·subst hkl
    rw [List.drop_length,Nat.sub_self];exact .inl ⟨rfl,.inr ⟨_,_,rfl⟩⟩
   ·refine .inr ⟨b,off+k,c - k,by rw [List.length_drop],by rw [List.length_drop];omega,by omega,fun j hj=>?_⟩
    rw [List.length_drop] at hj;obtain ⟨y,z,e1,e2⟩:=h3 (k+j) (by omega);rw [Nat.add_assoc,List.getElem_drop];exact ⟨y,z,e1,e2⟩
theorem OwBB.rdL {w:World} {base:Nat} {v:Value} {ls:List (List UInt8)} (h:OwBB w base v ls):RdL w v ls:=by
 obtain ⟨a,c,rfl⟩:=h.form;obtain ⟨ps,e,h1,h2⟩:=h;have h0:OwBB w base (.slice a ls.length c) ls:=⟨ps,e,h1,h2⟩
 rcases h1.2 with ⟨e,hn⟩ | ⟨g,cap,cur,e,_,hg,hn,hm,hsz,htake⟩
 ·have:ls=[]:=List.length_eq_zero_iff.1 hn
  subst this;cases e;exact .inl ⟨rfl,.inl rfl⟩
 ·cases e
  refine .inr ⟨g,0,c,rfl,hn,hm,fun j hj=>?_⟩;obtain ⟨g',y,z,e,hc,ho⟩:=h0.at j hj;cases e;exact ⟨y,z,by simpa using hc,ho.rd⟩
def okL (l:List (List UInt8)):Bool:=l.all fun b=>decide (b.length=128)
theorem qr4 (l:List (List UInt8)):okL l=true↔∀b∈l,b.length=128:=by simp [okL,List.all_eq_true]
def chkL (l:List (List UInt8)):Int:=if 4096<l.length then 4 else if okL l then 0 else 3
theorem qoj {l:List (List UInt8)} (h:chkL l=0):l.length≤4096∧∀b∈l,b.length=128:=by
 unfold chkL at h
 split at h
 ·cases h
 ·rename_i h1
  split at h
  ·rename_i h2;exact ⟨by omega,(qr4 l).1 h2⟩
  ·cases h
theorem qr5 {l:List (List UInt8)} (h:l.length≤4096) (h2:∀b∈l,b.length=128):chkL l=0:=by
 unfold chkL;rw [if_neg (by omega),if_pos ((qr4 l).2 h2)]
theorem qok (l:List (List UInt8)) (k:Nat) (hk:k<l.length):okL (l.take (k+1))=(okL (l.take k) && decide ((l[k]).length=128)):=by
 unfold okL;rw [List.take_succ_eq_append_getElem hk];simp only [List.all_append,List.all_cons,List.all_nil,Bool.and_true]
theorem qafp {l:List (List UInt8)} {k:Nat} (hk:k<l.length) (h:(l[k]).length≠128):okL l=false:=by
 cases e:okL l
 ·rfl
 ·exact absurd ((qr4 l).1 e _ (List.getElem_mem hk)) h
theorem qj5 (a:Option Addr) (n c:Nat) (l:List (List UInt8)) (w:World) (hrd:RdL w (.slice a n c) l):
  Calls Tryz.prog 74 #[.slice a n c] w fun e w'=>e=.returned (.int .i64 (chkL l))∧w'=w:=by
 have HN:=hide hrd.le.1;have HR:=hide hrd;clear hrd
 by_cases h4:4096<n
 ·have h4':(4096:Int)<n:=by omega
  have HE:=hide (show chkL l=4 by unfold chkL;rw [if_pos (by rw [←HN.out];exact h4)])
  go_enter Tryz.func74,Tryz.ntmps74
  go_wp2;go_ret;rw [HE.out];exact ⟨rfl,rfl⟩
 ·have h4':decide ((4096:Int)<n)=false:=by simpa using (by omega:¬(4096:Int)<n)
  have HE:=hide (show chkL l=if okL l then 0 else 3 by unfold chkL;rw [if_neg (by rw [←HN.out];exact h4)])
  have hn4:n≤4096:=by omega
  clear h4
  go_enter Tryz.func74,Tryz.ntmps74
  go_wp2;clear h4'
  go_loop [10] (fun i=>∃k:Nat,k≤n∧i=.int .i64 k∧Hid (okL (l.take k)=true)) (fun i=>n - (intOf i).toNat)
  case atStart=>exact ⟨0,Nat.zero_le _,rfl,hide (by simp [okL])⟩
  case round=>
   obtain ⟨k,hk,rfl,hok⟩:=hrel
   by_cases hlt:k<n
   ·have hlt':(k:Int)<n:=by omega
    have hkl:k<l.length:=by have:=HN.out;omega
    obtain ⟨b,off,y,z,rfl,q0,q1⟩:=HR.out.at k hkl;clear q1;obtain ⟨m,hm⟩:∃m,m=(l[k]).length:=⟨_,rfl⟩;rw [←hm] at q0;have HM:=hide hm;clear hm
    by_cases h1:m=128
    ·have HT:=hide (show okL (l.take (k+1))=true by rw [qok _ _ hkl,hok.out,←HM.out,h1];rfl)
     subst h1;go_wp2
     go_round
     case rel=>exact ⟨k+1,by omega,rfl,HT⟩
     case measure=>simp only [intOf];omega
    ·have h1':((m:Int) !=128)=true:=by simpa using (by omega:¬(m:Int)=128)
     have HX:=hide (qafp hkl (by rw [←HM.out];exact h1));clear h1;go_wp2;go_ret;rw [HE.out,HX.out];exact ⟨rfl,rfl⟩
   ·have hd:decide ((k:Int)<n)=false:=by simpa using (by omega:¬(k:Int)<n)
    have HX:=hide (show okL l=true by have:=hok.out;rwa [List.take_of_length_le (by rw [←HN.out];omega)] at this);go_wp2;go_ret;rw [HE.out,HX.out];exact ⟨rfl,rfl⟩
theorem qafq (l m:List (List UInt8)) (a b:Option Addr) (n1 c1 n2 c2:Nat) (w:World) (h:RdL w (.slice a n1 c1) l) (k:RdL w (.slice b n2 c2) m):
  Calls Tryz.prog 137 #[.slice a n1 c1,.slice b n2 c2,.func (.func 73) #[] #[]] w fun e w'=>e=.returned (.bool (decide (l=m)))∧w'=w:=by
 have H:=hide h;have K:=hide k;have E1:=hide h.le.1;have E2:=hide k.le.1;have hn1:n1≤maxLen:=h.le.2.2;unfold maxLen at hn1;clear h k
 by_cases hn:n1=n2
 ·subst hn
  go_enter Tryz.func137,Tryz.ntmps137
  go_wp2
  go_loop [17] (fun i=>∃k:Nat,k≤n1∧i=.int .i64 k∧Hid (l.take k=m.take k)) (fun i=>n1 - (intOf i).toNat)
  case atStart=>exact ⟨0,Nat.zero_le _,rfl,rfl⟩
  case round=>
   obtain ⟨k,hk,rfl,htk⟩:=hrel
   by_cases hlt:k<n1
   ·have hlt':(k:Int)<n1:=by omega
    have hkl:k<l.length:=by have:=E1.out;omega
    have hkm:k<m.length:=by have:=E2.out;omega
    obtain ⟨b1,o1,y1,z1,rfl,q0,q1⟩:=H.out.at k hkl;obtain ⟨b2,o2,y2,z2,rfl,r0,r1⟩:=K.out.at k hkm;have HQ:=hide q1;have HR:=hide r1;clear q1 r1
    go_wp2_with fail
    refine (qkm _ _ l[k] m[k] _ HQ.out HR.out).mono ?_
    rintro e w3 ⟨rfl,rfl⟩
    by_cases hd:l[k]=m[k]
    ·have hd':decide (l[k]=m[k])=true:=by simpa using hd
     rw [hd'];have HD:=hide hd;clear hd hd';go_wp2
     go_round
     case rel=>exact ⟨k+1,by omega,by go_num,by show _=_;rw [List.take_succ_eq_append_getElem hkl,List.take_succ_eq_append_getElem hkm,htk.out,HD.out]⟩
     case measure=>simp [intOf]<;>omega
    ·have hd':decide (l[k]=m[k])=false:=by simpa using hd
     rw [hd']
     have HE:=hide (show decide (l=m)=false by
      simp only [decide_eq_false_iff_not]
      intro e;apply hd
      simp only [e])
     clear hd hd';go_wp2;go_ret;exact ⟨by first | rfl | (rw [HE.out];rfl),rfl⟩
   ·have hd:decide ((k:Int)<n1)=false:=by simpa using (by omega:¬(k:Int)<n1)
    have HE:=hide (show decide (l=m)=true by
     simp only [decide_eq_true_eq]
     have:=htk.out
     rwa [List.take_of_length_le (by rw [←E1.out];omega),List.take_of_length_le (by rw [←E2.out];omega)] at this)
    go_wp2;go_ret;exact ⟨by first | rfl | (rw [HE.out];rfl),rfl⟩
 ·have hn':((n1:Int) !=n2)=true:=by simpa using (by omega:¬(n1:Int)=n2)
  have HE:=hide (show decide (l=m)=false by
   simp only [decide_eq_false_iff_not]
   intro e
   have:=E1.out
   have:=E2.out
   rw [e] at *
   omega)
  clear hn
  go_enter Tryz.func137,Tryz.ntmps137
  go_wp2;go_ret;exact ⟨by first | rfl | (rw [HE.out];rfl),rfl⟩
def qae (f:Fsd) (s:List UInt8):List (List UInt8):=if qaz f s≠0 then [] else (bloL f s).map fun n=>nowD f.1 n.toNat
def headW (g:Nat):List UInt8:=le4 g++List.replicate 124 0
theorem qqe (g:Nat):(headW g).length=128:=by simp [headW,le4]
theorem qlo {g:Nat} (h:g<4294967296):genF (headW g)=g:=by
 have e:(headW g).take 4=le4 g:=by simp [headW,le4]
 unfold genF;rw [e,qil _ h]
def qgl (b:List UInt8):Prop:=genF b≠0∧b=headW (genF b)
instance (b:List UInt8):Decidable (qgl b):=inferInstanceAs (Decidable (_∧_))
theorem qqf {g:Nat} (h:g<4294967296) (h0:g≠0):qgl (headW g):=by
 unfold qgl;rw [qlo h];exact ⟨h0,rfl⟩
abbrev Wl:=List UInt8 × Nat × Nat × Nat × Nat × Nat
def wz:Wl:=([],0,0,0,0,0)
def logW (s:List UInt8) (L:List (List UInt8)):Wl:=
 (s,genF (L.headD []),(logO (genF (L.headD [])) L.tail).length,endO 0 (logO (genF (L.headD [])) L.tail),qb0 (genF (L.headD [])) (L.tail.drop (sumO (logO (genF (L.headD [])) L.tail))),sumO (logO (genF (L.headD [])) L.tail))
def recL (L:List (List UInt8)):List (List UInt8):=(logO (genF (L.headD [])) L.tail).map (·.1)
def qbk (f:Fsd) (s:List UInt8):Int:=if qaz f s≠0 then qaz f s else if (qae f s).length<2∨¬qgl ((qae f s).headD []) then 8 else 0
def qai (f:Fsd) (s:List UInt8):Wl:=if qbk f s≠0 then wz else logW s (qae f s)
def qd1 (f:Fsd) (s:List UInt8):List (List UInt8):=if qbk f s≠0 then [] else recL (qae f s)
def qdt (f:Fsd) (s:List UInt8) (at0:Int) (l:List (List UInt8)):Nat→Fsd × Int
 | 0=>(f,0)
 | k+1=>if (qdt f s at0 l k).2≠0 then qdt f s at0 l k else qcm (qdt f s at0 l k).1 s (at0+k) (l.getD k [])
def qep (f:Fsd) (s:List UInt8) (at0:Int) (l:List (List UInt8)):Fsd × Int:=qdt f s at0 l l.length
theorem qqg {f:Fsd} {s:List UInt8} {at0:Int} {l:List (List UInt8)} {k:Nat} (h:(qdt f s at0 l k).2≠0):∀j,qdt f s at0 l (k+j)=qdt f s at0 l k
 | 0=>rfl
 | j+1=>by
  have e:=qqg h j;rw [←Nat.add_assoc,qdt,e,if_pos h]
def behE (f:Fsd) (w:Wl):Int:=if qbk f w.1≠0 then qbk f w.1 else if qai f w.1≠w then 8 else 0
def behN (f:Fsd) (w:Wl):Int:=if behE f w≠0 then 0 else ((qae f w.1).length:Int) - 1 - w.2.2.2.2.2
def hdW (w:Wl):Hd:=(w.2.1,w.2.2.1+1,max w.2.2.2.1 w.2.2.2.2.1+1,w.2.2.2.1)
def qb2 (w:Wl) (r:List UInt8):Int:=if 16384<r.length then 3 else if max w.2.2.2.1 w.2.2.2.2.1=4294967295 then 9 else frmE (hdW w) r
def qbx (w:Wl) (r:List UInt8):List (List UInt8):=if qb2 w r≠0 then [] else rowB (hdW w) r
abbrev Fw:=Fsd × Wl × Int
def appX (f:Fsd) (w:Wl) (r:List UInt8):Fsd × Int:=
 if behE f w≠0 then (fz,behE f w) else if qb2 w r≠0 then (fz,qb2 w r)
 else if behN f w<((qbx w r).length:Int) then (fz,90)
 else if (qep f w.1 (1+(w.2.2.2.2.2:Int)) (qbx w r)).2≠0 then (fz,(qep f w.1 (1+(w.2.2.2.2.2:Int)) (qbx w r)).2)
 else if (qbg (qep f w.1 (1+(w.2.2.2.2.2:Int)) (qbx w r)).1).2≠0 then (fz,(qbg (qep f w.1 (1+(w.2.2.2.2.2:Int)) (qbx w r)).1).2)
 else qbg (qep f w.1 (1+(w.2.2.2.2.2:Int)) (qbx w r)).1
def appW (f:Fsd) (w:Wl) (r:List UInt8):Fw:=if (appX f w r).2≠0 then (fz,wz,(appX f w r).2) else ((appX f w r).1,qai (appX f w r).1 w.1,qbk (appX f w r).1 w.1)
def qlp (f:Fsd) (w:Wl):Int:=behE f w
def qfx (f:Fsd) (w:Wl):Int:=if behE f w≠0 then 0 else if behN f w=0 then -1 else min (behN f w*107) 16384
def newW (f:Fsd) (s:List UInt8) (n:Int):Fw:=
 if fsE f≠0 then (fz,wz,fsE f) else if n<2∨4096<n then (fz,wz,2)
 else if (qa4 f s n).2≠0 then (fz,wz,(qa4 f s n).2)
 else if qct (qae (qa4 f s n).1 s)=4294967295 then (fz,wz,9)
 else if (qcm (qa4 f s n).1 s 0 (headW (qct (qae (qa4 f s n).1 s)+1))).2≠0 then (fz,wz,(qcm (qa4 f s n).1 s 0 (headW (qct (qae (qa4 f s n).1 s)+1))).2)
 else ((qcm (qa4 f s n).1 s 0 (headW (qct (qae (qa4 f s n).1 s)+1))).1,(s,qct (qae (qa4 f s n).1 s)+1,0,0,0,0),0)
/-! ### blocks -/
theorem qj6 {f:Fsd} {s:List UInt8} (h:qaz f s=0):qae f s=(bloL f s).map fun n=>nowD f.1 n.toNat:=by
 unfold qae;rw [if_neg (fun e=>e h)]
theorem qc8 {f:Fsd} {s:List UInt8} (h:qaz f s=0):(qae f s).length=(bloL f s).length:=by rw [qj6 h,List.length_map]
theorem qg1 {f:Fsd} {s:List UInt8} (h:qaz f s=0) {i:Nat} (hi:i<(qae f s).length) (hi':i<(bloL f s).length):(qae f s)[i]=nowD f.1 ((bloL f s)[i]).toNat:=by
 simp only [qj6 h,List.getElem_map]
theorem qic {f:Fsd} {s:List UInt8}:∀b∈qae f s,b.length=128:=by
 intro b hb
 by_cases h:qaz f s=0
 ·rw [qj6 h,List.mem_map] at hb
  obtain ⟨n,hn,rfl⟩:=hb
  have:=qcs h n hn
  exact qrw (qaw (qlg h).1).1 (by omega)
 ·unfold qae at hb;rw [if_pos h] at hb;cases hb
theorem qck (f:Fsd) (s:List UInt8):(qae f s).length≤4096:=by
 by_cases h:qaz f s=0
 ·rw [qc8 h]
  obtain ⟨hok,l,hl⟩:=qcr h;obtain ⟨k,hk,e⟩:=List.getElem_of_mem hl;have h1:=qab7 f.2.2.1 k hk;have h2:=qadc hok k;have h3:=qadc hok (k+1);rw [e] at h1;have e2:bloL f s=qau l:=(qdr hok hl).2.2.2.1;rw [e2];have h1:sumS (List.take (k+1) f.2.2.1)=sumS (List.take k f.2.2.1)+(qau l).length:=h1;omega
 ·unfold qae;rw [if_pos h];exact Nat.zero_le _
theorem qtq (f:Fsd) (s:List UInt8):chkL (qae f s)=0:=qr5 (qck f s) qic
theorem qy1 (f:Fsd) (s:List UInt8):chkL (qae f s).tail=0:=qr5 (by have:=qck f s;rw [List.length_tail];omega) (fun b hb=>qic b (List.mem_of_mem_tail hb))
theorem qid {f:Fsd} {s:List UInt8} (h:qaz f s=0):qjm f s=(qae f s).length:=by rw [(qlg h).2.2,qc8 h]
theorem qaci {f:Fsd} {s:List UInt8} (h:qaz f s=0) {i:Nat} (hi:i<(qae f s).length):getE f s i=0∧getL f s i=(qae f s)[i]:=by
 have hi':i<(bloL f s).length:=by rw [←qc8 h];exact hi
 obtain ⟨_,_,h1,h2⟩:=qp6 h hi';exact ⟨h1,by rw [h2,qg1 h hi hi']⟩
theorem qafr {f:Fsd} {s:List UInt8} (h:qaz f s≠0):qae f s=[]:=by unfold qae;rw [if_pos h]
theorem qc9 {f:Fsd} {s:List UInt8} (h:qbk f s=0):qaz f s=0∧2≤(qae f s).length∧qgl ((qae f s).headD [])∧qai f s=logW s (qae f s)∧qd1 f s=recL (qae f s):=by
 have e1:qai f s=logW s (qae f s):=by unfold qai;rw [if_neg (fun e=>e h)]
 have e2:qd1 f s=recL (qae f s):=by unfold qd1;rw [if_neg (fun e=>e h)]
 unfold qbk at h
 by_cases h0:qaz f s=0
 ·rw [if_neg (fun e=>e h0)] at h
  by_cases h1:(qae f s).length<2∨¬qgl ((qae f s).headD [])
  ·rw [if_pos h1] at h;cases h
  ·have h2:¬(qae f s).length<2:=fun e=>h1 (.inl e)
   have h3:qgl ((qae f s).headD []):=Classical.byContradiction fun e=>h1 (.inr e)
   exact ⟨h0,by omega,h3,e1,e2⟩
 ·rw [if_pos h0] at h;exact absurd h h0
theorem qj7 {f:Fsd} {s:List UInt8} (h0:qaz f s=0) (h1:2≤(qae f s).length) (h2:qgl ((qae f s).headD [])):qbk f s=0:=by
 unfold qbk;rw [if_neg (fun e=>e h0),if_neg];rintro (h | h)
 ·omega
 ·exact h h2
theorem qr6 (s:List UInt8) (L:List (List UInt8)) (h:L.length≤4096):(logW s L).2.1<4294967296∧(logW s L).2.2.1≤4096∧(logW s L).2.2.2.1<4294967296∧(logW s L).2.2.2.2.1<4294967296∧(logW s L).2.2.2.2.2≤L.length - 1:=by
 have hs:=qia (genF (L.headD [])) (L.tail.length+1) 1 0 L.tail;have he:=qib (genF (L.headD [])) (L.tail.length+1) 1 0 L.tail (by omega);rw [List.length_tail] at hs;refine ⟨qlk _, ?_, ?_,qoh _ _ _ (by omega), ?_⟩
 ·show (logO (genF (L.headD [])) L.tail).length≤4096
  unfold logO;rw [List.length_tail] at *;omega
 ·exact he
 ·show sumO (logO (genF (L.headD [])) L.tail)≤_
  unfold logO;rw [List.length_tail];exact hs.1
end Go.Proofs.YtnmbbpdhjkaidaaGreat
