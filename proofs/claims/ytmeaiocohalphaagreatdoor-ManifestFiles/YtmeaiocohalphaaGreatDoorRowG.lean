/-
  Small laws of our own over the model: rows of records of a fixed number of cells, read and owned, whatever the records are. No program is named here.
-/
import Derived.Test.YtmeaiocohalphaaGreatDoorMathFs6
import Derived.Test.YtmeaiocohalphaaGreatDoorMathSl
import Derived.Test.YtmeaiocohalphaaGreatDoorFsStep
import Derived.Test.YtmeaiocohalphaaGreatDoorRegD
import Derived.Test.YtmeaiocohalphaaGreatDoorDMay
import Derived.Laws.OwnMore
namespace Go.Proofs.YtmeaiocohalphaaGreatDoor
open Go.RowKit
set_option linter.all false
/-! ### how many blocks can be given -/
theorem qmj {p q:Int→Bool} {a:Int}:∀k:Nat,(∀i:Nat,i<k→p (a+i)=q (a+i))→cntB p a k=cntB q a k
 | 0,_=>rfl
 | k+1,h=>by
  simp only [cntB]
  rw [qmj k (fun i hi=>h i (by omega)),h k (by omega)]
theorem qac2 {p:Int→Bool} {a:Int}:∀k:Nat,(∀i:Nat,i<k→p (a+i)=true)→cntB p a k=k
 | 0,_=>rfl
 | k+1,h=>by
  simp only [cntB]
  rw [qac2 k (fun i hi=>h i (by omega)),h k (by omega),if_pos rfl];omega
theorem qqm {f:Fsd} (h:okFs f):allX (qaq f)=0∧qaq f=qan f.2.2.1++qan f.2.2.2∧(∀x∈qaq f,34≤x.1∧1≤x.2∧x.1+x.2≤mny f.1):=by
 have hc:=h.2.2.2.2.2;have hk:=qxk h
 have e1:qde f.2.2.1=qan f.2.2.1:=by unfold qde;rw [if_pos (qkh hc)]
 have e2:qde f.2.2.2=qan f.2.2.2:=by unfold qde;rw [if_pos (qkh hk)]
 have m1:=(qcl hc).2;have m2:=(qcl hk).2
 have hx:∀x∈qaq f,34≤x.1∧1≤x.2∧x.1+x.2≤mny f.1:=by
  intro x hx;unfold qaq at hx;rw [e1,e2] at hx
  rcases List.mem_append.1 hx with hx | hx
  ·exact qdy m1.2.2.1 x hx
  ·exact qdy m2.2.2.1 x hx
 have hmm:=((qb3 f.1).1 (qax h).1).2.2.1
 have l1:∀{fs:List Fl} {B:Int},mayF fs B→(qan fs).length≤2048:=by
  intro fs B hm
  have:=ql0 fs 64 (fun g hg=>by have:=qut hm g hg;omega)
  have:=hm.1
  have hb:=hm.2.2.2
  -- the bytes bound the extents
  have hle:(qan fs).length≤(bytF fs).length:=by
   have:∀fs:List Fl,(qan fs).length≤(fs.flatMap qcf).length:=by
    intro fs
    induction fs with
    | nil=>simp [qan]
    | cons g fs ih=>
     have e:qan (g::fs)=g.2++qan fs:=rfl;rw [e,List.length_append,List.flatMap_cons,List.length_append]
     have h2:g.2.length≤(qcf g).length:=by
      unfold qcf;rw [List.length_append,List.length_append]
      have:∀l:List Ex,l.length≤(bytE l).length:=by
       intro l
       induction l with
       | nil=>simp [bytE]
       | cons x l ih=>
        have e:bytE (x::l)=bytX x++bytE l:=rfl;rw [e,List.length_append,List.length_cons]
        have:1≤(bytX x).length:=by
         unfold bytX;rw [List.length_append]
         have:=qvx x.1.toNat
         omega
        omega
      have:=this g.2
      omega
     omega
   have:=this fs
   unfold bytF;rw [List.length_append];omega
  omega
 refine ⟨?_, ?_,hx⟩
 ·refine qk1 ?_ (fun x hx'=>by have:=hx x hx';omega)
  unfold qaq;rw [e1,e2,List.length_append]
  have:=l1 m1
  have:=l1 m2
  omega
 ·unfold qaq;rw [e1,e2]
theorem qvd {f:Fsd} (h:okFs f):qcd 34 (qbg f) (qaq f)=0:=by
 have h1:=(qax h).1;rw [qid h1];unfold qcd;have hmm:=((qb3 f.1).1 h1).2.2.1
 have:=(qax h).2.1
 rw [if_neg (by omega),(qqm h).1]
theorem qxp {f:Fsd} (h:okFs f):qakf f=0∧quj f=cntB (fun n=>!inL (qaq f) n) 34 (mny f.1 - 34):=by
 have h1:=(qax h).1;have h2:=(qax h).2.1;have hmm:=((qb3 f.1).1 h1).2.2.1;have hf:=qvd h;obtain ⟨r1,r2,r3⟩:=qd7 hf;have hm:=qid h1;have hch:chkX (qb2 34 (qbg f) (qaq f))=0:=qaad r1 (by decide) (by rw [hm];omega) r3;have he:=qdv h;refine ⟨?_, ?_⟩
 ·unfold qakf;rw [if_neg (by rw [he];decide),if_neg (by rw [hf];decide),hch]
 ·unfold quj
  rw [if_neg (by rw [he];decide),if_neg (by rw [hf];decide)];unfold manyR;rw [if_pos hch];rw [qh2 (a:=34) (k:=mny f.1 - 34) _ (fun x hx=>by have:=r1.1 x hx;rw [hm] at this;omega) (qi4 hch).2];apply qmj;intro i hi;rw [r2,hm];rw [decide_eq_true (by omega),decide_eq_true (by omega)]
  simp
theorem qac3 {p:Int→Bool} {a:Int} (k:Nat):cntB (fun n=>!p n) a k=k - cntB p a k:=by
 have h1:=qo7 (p:=p) (q:=fun n=>!p n) a k (fun i _ hp=>by simp [hp]);have h2:=qac2 (p:=fun n=>p n || !p n) (a:=a) k (fun i _=>by simp);omega
theorem qagr {f:Fsd} (h:okFs f):qbj (qan f.2.2.1)=cntB (inL (qan f.2.2.1)) 34 (mny f.1 - 34):=by
 have hm:=qg6 h
 have:=(qax h).2.1
 exact qh2 _ (fun x hx=>by have:=qdy hm.2.2.1 x hx;omega) (extP_parts.1 hm.2.2.1).1
theorem qmk {l:List Ex} (h:∀x∈l,0≤x.2):((qam l).length:Int)=qbj l:=by
 induction l with
 | nil=>rfl
 | cons x l ih=>
  have:=ih (fun y hy=>h y (List.mem_cons_of_mem _ hy))
  have hx:=h x (List.mem_cons_self ..);have e1:qam (x::l)=blkX x x.2.toNat++qam l:=rfl;have e2:qbj (x::l)=x.2+qbj l:=rfl
  have e3:(blkX x x.2.toNat).length=x.2.toNat:=by simp [blkX]
  rw [e1,e2,List.length_append,e3];omega
def sumS (fs:List Fl):Int:=((fs.map fun g=>(qam g.2).length).sum:Nat)
theorem qags {fs:List Fl} (h:∀g∈fs,∀x∈g.2,0≤x.2):sumS fs=qbj (qan fs):=by
 induction fs with
 | nil=>rfl
 | cons g fs ih=>
  have:=ih (fun k hk=>h k (List.mem_cons_of_mem _ hk))
  have hg:=qmk (h g (List.mem_cons_self ..));have e1:qan (g::fs)=g.2++qan fs:=rfl
  have e2:qbj (g.2++qan fs)=qbj g.2+qbj (qan fs):=by unfold qbj;rw [List.map_append,List.sum_append]
  rw [e1,e2,←this,←hg];unfold sumS;rw [List.map_cons,List.sum_cons];omega
theorem qagt (fs:List Fl) (k:Nat) (h:k<fs.length):sumS (fs.take (k+1))=sumS (fs.take k)+(qam (fs[k]).2).length:=by
 unfold sumS;rw [List.take_succ_eq_append_getElem h,List.map_append,List.sum_append]
 simp
theorem qai1 {f:Fsd} (h:okFs f) (k:Nat):0≤sumS (f.2.2.1.take k)∧sumS (f.2.2.1.take k)≤4096:=by
 have hm:=qg6 h
 have hall:∀g∈f.2.2.1,∀x∈g.2,0≤x.2:=fun g hg x hx=>by have:=qdy hm.2.2.1 x ((qmi hg).subset hx);omega
 have h1:=qags hall;have h2:=qagr h;have h3:=qo6 (inL (qan f.2.2.1)) 34 (mny f.1 - 34);have hmm:=((qb3 f.1).1 (qax h).1).2.2.1
 have e:sumS f.2.2.1=sumS (f.2.2.1.take k)+sumS (f.2.2.1.drop k):=by
  unfold sumS;rw [←Int.natCast_add,←List.sum_append,←List.map_append,List.take_append_drop]
 have a:0≤sumS (f.2.2.1.take k):=by unfold sumS;omega
 have b:0≤sumS (f.2.2.1.drop k):=by unfold sumS;omega
 omega
theorem qagu {f g:Fsd} {but:List UInt8} (hf:okFs f) (hg:okFs g) (hd:g.1=f.1) (hs:∀x∈f.2.2.1,x∈g.2.2.1):Like f g but:=by
 intro x hx _;have h1:=qel hf hx;have h2:=qel hg (hs x hx);refine ⟨h1.2.2.2.2,h2.2.2.2.2,qs4 h1.2.2.2.2 h2.2.2.2.2 (by rw [h1.2.2.2.1,h2.2.2.2.1]) ?_⟩;intro n _;rw [hd]
theorem qagv {f:Fsd} {l:List Fl} {e:Int} (h:(qc8 f l e).2≠0):(qc8 f l e).1=fz:=by
 unfold qc8 at *
 split
 ·rfl
 ·split
  ·rfl
  ·rename_i h0 h1
   rw [if_neg h0,if_neg h1] at h;exact absurd rfl h
theorem qagw {a b:Int} {l:List Ex} {n:Int} (ha:0≤a) (h:qco a b l n=0):qj9 a b (qcb a b l n)∧qbj (qcb a b l n)=n∧qcb a b l n≠[]∧∀k,inL (qcb a b l n) k=true→inL l k=false:=by
 obtain ⟨f1,f2,r,f3,f4⟩:=qki h;obtain ⟨r1,r2,r3⟩:=qd7 f1
 rcases qk3 (qb2 a b l) n f2 (fun x hx=>(r1.1 x hx).2.1) with ⟨k1,_⟩ | ⟨p,x,q,c,k1,k2,k3,k4,k5⟩
 ·rw [k1] at f3;cases f3
 rw [k2] at f3;cases f3;rw [f4];refine ⟨qm9 (q:=q) (x:=x) (y:=(x.1,c)) (k1 ▸ r1) rfl k3 k4, ?_,by simp, ?_⟩
 ·unfold qbj at *
  rw [List.map_append,List.sum_append]
  simpa using k5
 ·intro k hk
  have hin:inL (qb2 a b l) k=true:=by
   rw [qo1] at hk ⊢;obtain ⟨y,hy,h1,h2⟩:=hk;rw [k1]
   rcases List.mem_append.1 hy with hy | hy
   ·exact ⟨y,List.mem_append_left _ hy,h1,h2⟩
   ·obtain rfl:y=(x.1,c):=by simpa using hy
    exact ⟨x,by simp,h1,by simp only at h2;omega⟩
  rw [r2] at hin
  simp only [Bool.and_eq_true,Bool.not_eq_true'] at hin
  exact hin.2
theorem qoo {f:Fsd} {s:List UInt8} {n:Int} (h:(qau f s n).2=0):okFs f∧qau f s n=((f.1,f.2.1,mkL f s n,f.2.2.2),0)∧okFs (f.1,f.2.1,mkL f s n,f.2.2.2)∧qat (f.1,f.2.1,mkL f s n,f.2.2.2) s=0∧qf5 (f.1,f.2.1,mkL f s n,f.2.2.2) s=n∧Like f (f.1,f.2.1,mkL f s n,f.2.2.2) []∧qakf (f.1,f.2.1,mkL f s n,f.2.2.2)=0∧quj (f.1,f.2.1,mkL f s n,f.2.2.2)=quj f - n∧1≤n∧n≤4096∧0≤quj f∧quj f≤4096:=by
 obtain ⟨h0,h1,h2⟩:=qakz h;have hok:=qwp h0;obtain ⟨m1,m2,m3,m4⟩:=mk_ok h1;have hd:=(qax hok).1;have hmm:=qid hd;have h34:=(qax hok).2.1;have hm4:=((qb3 f.1).1 hd).2.2.1;obtain ⟨T,hT⟩:∃T,T=qcb 34 (qbg f) (qaq f) n:=⟨_,rfl⟩;rw [←hT] at m3 m4;have ht:=qagw (by decide) m2;rw [←hT,hmm] at ht;rw [hmm] at m3;have ha:=qt8 m3;have hA:okFs (f.1,f.2.1,insF f.2.2.1 (s,T),f.2.2.2):=qacy hok ha.2.1;have hin:(s,T)∈insF f.2.2.1 (s,T):=ins_mem.2 (.inl rfl);have hfi:=qel hA hin
 have hpos:∀x∈T,0≤x.2:=fun x hx=>by have:=ht.1.1 x hx;omega
 have hlen:=qmk hpos;rw [ht.2.1] at hlen;rw [m4];refine ⟨hok,by unfold qau;rw [h2,m4],hA,hfi.2.2.2.2, ?_,qagu hok hA rfl (fun x hx=>ins_mem.2 (.inr hx)), ?_⟩
 ·have hs:qat (f.1,f.2.1,insF f.2.2.1 (s,T),f.2.2.2) s=0:=hfi.2.2.2.2
  rw [(qhu hs).2.2];have hb:bloL (f.1,f.2.1,insF f.2.2.1 (s,T),f.2.2.2) s=qam T:=hfi.2.2.2.1
  rw [hb];exact hlen
 ·obtain ⟨c1,c2⟩:=qxp hA
  obtain ⟨d1,d2⟩:=qxp hok;have u1:=(qqm hA).2.1;have u2:=(qqm hok).2.1
  have hap:apX T=true:=by
   have hx:=(qgs m3).2.2.2.2.1;exact (qi4 (qacz hx (List.sublist_append_right _ _))).2
  have hcT:=qh2 (a:=34) (k:=mny f.1 - 34) T (fun x hx=>by have:=ht.1.1 x hx;omega) hap;rw [ht.2.1] at hcT
  have hor:∀k,inL (qaq (f.1,f.2.1,insF f.2.2.1 (s,T),f.2.2.2)) k=(inL (qaq f) k || inL T k):=by
   intro k;rw [u1,u2]
   show inL (qan (insF f.2.2.1 (s,T))++qan f.2.2.2) k=_
   rw [Bool.eq_iff_iff]
   simp only [Bool.or_eq_true,qo1,List.mem_append]
   have hp:=qpd f.2.2.1 (s,T)
   constructor
   ·rintro ⟨x,hx | hx,h1,h2⟩
    ·rcases List.mem_append.1 (hp.mem_iff.1 hx) with hx | hx
     ·exact .inl ⟨x,.inl hx,h1,h2⟩
     ·exact .inr ⟨x,hx,h1,h2⟩
    ·exact .inl ⟨x,.inr hx,h1,h2⟩
   ·rintro (⟨x,hx | hx,h1,h2⟩ | ⟨x,hx,h1,h2⟩)
    ·exact ⟨x,.inl (hp.mem_iff.2 (List.mem_append_left _ hx)),h1,h2⟩
    ·exact ⟨x,.inr hx,h1,h2⟩
    ·exact ⟨x,.inl (hp.mem_iff.2 (List.mem_append_right _ hx)),h1,h2⟩
  have e1:=qo7 (p:=inL (qaq f)) (q:=inL T) 34 (mny f.1 - 34) (fun i _ hp=>by
   cases e:inL T (34+(i:Int)) with
   | false=>rfl
   | true=>rw [ht.2.2.2 _ e] at hp;cases hp)
  have e2:=qac3 (p:=inL (qaq f)) (a:=34) (mny f.1 - 34);have e3:=qac3 (p:=fun k=>inL (qaq f) k || inL T k) (a:=34) (mny f.1 - 34)
  have e4:quj (f.1,f.2.1,insF f.2.2.1 (s,T),f.2.2.2)=cntB (fun k=>!(inL (qaq f) k || inL T k)) 34 (mny f.1 - 34):=by
   rw [c2];exact qmj _ (fun i _=>by rw [hor])
  have hw:=(qki m2).2.1
  have hn:n≤4096:=by
   by_cases hx:n<1∨4096<n
   ·rw [(qeb (qki m2).1 hx).1] at m2;cases m2
   ·omega
  have b1:=qo6 (fun k=>!inL (qaq f) k) 34 (mny f.1 - 34);have b2:=qo6 (inL (qaq f)) 34 (mny f.1 - 34);refine ⟨c1, ?_,hw,hn, ?_, ?_⟩
  ·rw [e4,d2];omega
  ·rw [d2];omega
  ·rw [d2];omega
def genF (b:List UInt8):Nat:=un4 (b.take 4)
abbrev Op:=List UInt8 × Nat × Nat
theorem qs6 {α:Type} (cur x:List α) (off n:Nat) (h:off+x.length≤n) (hn:n≤cur.length):(cur.take off++(x++cur.drop (off+x.length))).take n=(cur.take n).take off++(x++(cur.take n).drop (off+x.length)):=by
 have h1:(cur.take off).length=off:=by rw [List.length_take];omega
 rw [List.take_append,List.take_append,h1,List.take_of_length_le (l:=cur.take off) (by omega),List.take_of_length_le (l:=x) (by omega),List.take_take,Nat.min_eq_left (by omega),List.drop_take,Nat.sub_sub]
theorem qgf {P:Program} (w:World) {ops:Array Oper} {rest:List Oper} {o:Oper} {a:Act} {Q:Exit→Act→World→Prop} (hgd:o.guard=none) (d s:Operand) (dT:TypeId)
  (ho:o.op=.call {callee:=.builtin .copy,args:=#[d,s],argTypes:=#[dT,dT]}) (hu:P.underlying dT=some (.slice 5)) (hsz:(P.info? 5).map (·.size)=some 1)
  (base g n c off dLen dCap:Nat) (hd:a.eval d=.slice (some ⟨g,off,none⟩) dLen dCap) (v:Value) (l:List UInt8) (hs:a.eval s=v) (hrd:Rd w v l)
  (data:List UInt8) (hown:OwB w base (.slice (some ⟨g,0,none⟩) n c) data) (hfit:off+dLen=data.length)
  (h:∀w',w.grownBy w' (some g)→OwB w' base (.slice (some ⟨g,0,none⟩) n c) (splice data off (l.take dLen))→wpList P ops Q rest (a.put o.dst (goInt (l.take dLen).length)) w'):
  wpList P ops Q (o::rest) a w:=by
 obtain ⟨sa,sc,rfl⟩:=hrd.form
 by_cases hpos:l=[]
 ·subst hpos
  refine wpList_copy_nothing hgd d s dT dT ho 5 hu hsz _ _ _ _ _ _ hd hs (Nat.min_eq_left (Nat.zero_le _)) ?_
  have hh:=h w (World.grownBy.refl _ _)
  have e0:(([]:List UInt8).take dLen).length=0:=by simp
  rw [e0] at hh
  refine hh ?_
  have e:splice data off (([]:List UInt8).take dLen)=data:=by simp [splice]
  rw [e];exact hown
 ·rcases hrd with ⟨e,_⟩ | ⟨b,of,c',e,hc,hm,hcell⟩
  ·exact absurd e hpos
  ·cases e
   have hlt:(l.take dLen).length=min dLen l.length:=List.length_take
   have hlen:(u8v (l.take dLen)).length=min dLen l.length:=by simp [u8v]
   obtain ⟨hx,h' | ⟨g',cap',cur,e,h1,h2,h3,h4,h5,h6⟩⟩:=hown
   ·cases h'.1
   ·cases e
    have htk:cur.toList.take data.length=u8v data:=by rw [←h6,Nat.mul_one]
    have hcs:data.length≤cur.size:=by rw [h5];omega
    refine wpList_copy_own hgd d s dT dT ho 5 hu hsz g off _ dCap ⟨b,of,none⟩ l.length sc hd hs cur _ h2 (u8v (l.take dLen)) (by rw [hlen];exact Nat.min_comm _ _) ?_ (by rw [hlen];omega) (qcx _) ?_
    ·intro j u hj
     obtain ⟨hj',rfl⟩:=qce (l.take dLen) j u hj;rw [Addr.add_lit];rw [List.length_take] at hj';rw [List.getElem_take];exact hcell j (by omega)
    ·rw [hlen,←hlt]
     refine h _ ⟨rfl,rfl,rfl,by simp [World.setRow],fun k _ hk=>setRow_other w g k _ (fun e=>hk (by rw [e]))⟩ ?_
     have hl2:(splice data off (l.take dLen)).length=data.length:=length_splice _ _ _ (by rw [hlt];omega);refine ⟨by simp [u8v],.inr ⟨g,c,_,by rw [hl2],h1,setRow_heap w g _ _ _ _ h2,by rw [hl2];exact h3,h4, ?_, ?_⟩⟩
     ·have hz:cur.toList.length=c*1:=by rw [Array.length_toList,h5]
      simp [hlen];omega
     ·rw [hl2,qjd,hlen,Nat.mul_one]
      show ((cur.toList.take off++(u8v (l.take dLen)++cur.toList.drop (off+(l.take dLen).length))).take data.length)=_
      have hx1:off+(u8v (l.take dLen)).length≤data.length:=by rw [hlen];omega
      have:=qs6 cur.toList (u8v (l.take dLen)) off data.length hx1 (by rw [Array.length_toList];exact hcs)
      rw [htk,hlen] at this
      rw [hlt];exact this
def RdL (w:World) (v:Value) (ls:List (List UInt8)):Prop:=
 (ls=[]∧(v=.slice none 0 0∨∃a c,v=.slice (some a) 0 c))∨
 ∃b off c,v=.slice (some ⟨b,off,none⟩) ls.length c∧ls.length≤c∧c≤maxLen∧∀j,(h:j<ls.length)→∃y z,w.cell? ⟨b,off+j,none⟩=some (.slice y (ls[j]).length z)∧Rd w (.slice y (ls[j]).length z) ls[j]
theorem RdL.at {w:World} {a:Option Addr} {n c:Nat} {l:List (List UInt8)} (h:RdL w (.slice a n c) l) (j:Nat) (hj:j<l.length):∃b off y z,a=some ⟨b,off,none⟩∧w.cell? ⟨b,off+j,none⟩=some (.slice y (l[j]).length z)∧Rd w (.slice y (l[j]).length z) l[j]:=by
 rcases h with ⟨rfl,_⟩ | ⟨b,off,c',e,_,_,hc⟩
 ·simp at hj
 ·cases e
  obtain ⟨y,z,h1,h2⟩:=hc j hj;exact ⟨b,off,y,z,rfl,h1,h2⟩
theorem OwBB.rdL {w:World} {base:Nat} {v:Value} {ls:List (List UInt8)} (h:OwBB w base v ls):RdL w v ls:=by
 obtain ⟨a,c,rfl⟩:=h.form;obtain ⟨ps,e,h1,h2⟩:=h;have h0:OwBB w base (.slice a ls.length c) ls:=⟨ps,e,h1,h2⟩
 rcases h1.2 with ⟨e,hn⟩ | ⟨g,cap,cur,e,_,hg,hn,hm,hsz,htake⟩
 ·have:ls=[]:=List.length_eq_zero_iff.1 hn
  subst this;cases e;exact .inl ⟨rfl,.inl rfl⟩
 ·cases e
  refine .inr ⟨g,0,c,rfl,hn,hm,fun j hj=>?_⟩;obtain ⟨g',y,z,e,hc,ho⟩:=h0.at j hj;cases e;exact ⟨y,z,by simpa using hc,ho.rd⟩
def qbf (f:Fsd) (s:List UInt8):List (List UInt8):=if qat f s≠0 then [] else (bloL f s).map fun n=>nowD f.1 n.toNat
def headW (g:Nat):List UInt8:=le4 g++List.replicate 124 0
def heldW (b:List UInt8):Prop:=genF b≠0∧b=headW (genF b)
instance (b:List UInt8):Decidable (heldW b):=inferInstanceAs (Decidable (_∧_))
abbrev Wl:=List UInt8 × Nat × Nat × Nat × Nat × Nat
def wz:Wl:=([],0,0,0,0,0)
def qdd (f:Fsd) (s:List UInt8) (at0:Int) (l:List (List UInt8)):Nat→Fsd × Int
 | 0=>(f,0)
 | k+1=>if (qdd f s at0 l k).2≠0 then qdd f s at0 l k else qcs (qdd f s at0 l k).1 s (at0+k) (l.getD k [])
def qop (f:Fsd) (s:List UInt8) (at0:Int) (l:List (List UInt8)):Fsd × Int:=qdd f s at0 l l.length
theorem qs7 {f:Fsd} {s:List UInt8} {at0:Int} {l:List (List UInt8)} {k:Nat} (h:(qdd f s at0 l k).2≠0):∀j,qdd f s at0 l (k+j)=qdd f s at0 l k
 | 0=>rfl
 | j+1=>by
  have e:=qs7 h j;rw [←Nat.add_assoc,qdd,e,if_pos h]
/-! ### blocks -/
theorem qqn {f:Fsd} {s:List UInt8} (h:qat f s=0):qbf f s=(bloL f s).map fun n=>nowD f.1 n.toNat:=by
 unfold qbf;rw [if_neg (fun e=>e h)]
theorem qiq {f:Fsd} {s:List UInt8} (h:qat f s=0):(qbf f s).length=(bloL f s).length:=by rw [qqn h,List.length_map]
theorem qqo {f:Fsd} {s:List UInt8} (h:qat f s=0) {i:Nat} (hi:i<(qbf f s).length) (hi':i<(bloL f s).length):(qbf f s)[i]=nowD f.1 ((bloL f s)[i]).toNat:=by
 simp only [qqn h,List.getElem_map]
theorem qku {f:Fsd} {s:List UInt8}:∀b∈qbf f s,b.length=128:=by
 intro b hb
 by_cases h:qat f s=0
 ·rw [qqn h,List.mem_map] at hb
  obtain ⟨n,hn,rfl⟩:=hb
  have:=qdp h n hn
  exact qva (qax (qhu h).1).1 (by omega)
 ·unfold qbf at hb;rw [if_pos h] at hb;cases hb
theorem qgg (f:Fsd) (s:List UInt8):(qbf f s).length≤4096:=by
 by_cases h:qat f s=0
 ·rw [qiq h]
  obtain ⟨hok,l,hl⟩:=qfa h;obtain ⟨k,hk,e⟩:=List.getElem_of_mem hl;have h1:=qagt f.2.2.1 k hk;have h2:=qai1 hok k;have h3:=qai1 hok (k+1);rw [e] at h1;have e2:bloL f s=qam l:=(qel hok hl).2.2.2.1;rw [e2];have h1:sumS (List.take (k+1) f.2.2.1)=sumS (List.take k f.2.2.1)+(qam l).length:=h1;omega
 ·unfold qbf;rw [if_pos h];exact Nat.zero_le _
theorem qir {f:Fsd} {s:List UInt8} (h:qat f s=0):qf5 f s=(qbf f s).length:=by rw [(qhu h).2.2,qiq h]
theorem qxq {f:Fsd} {s:List UInt8} (h:qat f s=0) {i:Nat} (hi:i<(qbf f s).length):getE f s i=0∧getL f s i=(qbf f s)[i]:=by
 have hi':i<(bloL f s).length:=by rw [←qiq h];exact hi
 obtain ⟨_,_,h1,h2⟩:=qom h hi';exact ⟨h1,by rw [h2,qqo h hi hi']⟩
theorem qak2 {f:Fsd} {s:List UInt8} (h:qat f s≠0):qbf f s=[]:=by unfold qbf;rw [if_pos h]
theorem qak3 {f:Fsd} {s:List UInt8} {i:Int} {b:List UInt8} (h:(qcs f s i b).2=0):
  ∃j:Nat,i=j∧j<(qbf f s).length∧qbf (qcs f s i b).1 s=(qbf f s).set j b∧okFs (qcs f s i b).1∧(qcs f s i b).1.2=f.2∧qat f s=0∧qat (qcs f s i b).1 s=0∧mny (qcs f s i b).1.1=mny f.1:=by
 obtain ⟨hok,d',e,ha,ho,hact⟩:=qac0 h;obtain ⟨hokF,_,_,hs,hsF,_⟩:=qxo h;rw [e] at hokF hsF ⊢;obtain ⟨_,j,rfl,hj,hN⟩:=qac1 hok ha;obtain ⟨hd,hm34,_,_⟩:=qax hok;obtain ⟨o1,o2,_⟩:=que hd hact ho;have hbl:bloL (d',f.2) s=bloL f s:=(qqk (f:=f) (g:=(d',f.2)) rfl s).1;have hlF:=qiq hsF;have hl:=qiq hs;obtain ⟨_,L,hL⟩:=qfa hs
 have hnd:(bloL f s).Nodup:=by rw [(qel hok hL).2.2.2.1];exact qon hok hL
 refine ⟨j,rfl,by rw [hl];exact hj, ?_,hokF,rfl,hs,hsF,o2⟩;apply List.ext_getElem
 ·rw [List.length_set,hlF,hl,hbl]
 ·intro k h1 h2
  have hk:k<(bloL f s).length:=by rw [←hbl,←hlF];exact h1
  have hkf:k<(qbf f s).length:=by rw [hl];exact hk
  rw [qqo hsF h1 (by rw [hbl];exact hk),List.getElem_set]
  have eb:(bloL (d',f.2) s)[k]'(by rw [hbl];exact hk)=(bloL f s)[k]:=by simp only [hbl]
  rw [eb];have hr:=qdp hs _ (List.getElem_mem hk);obtain ⟨n,hn⟩:∃n:Nat,(bloL f s)[k]=n:=⟨((bloL f s)[k]).toNat,by omega⟩
  have hnt:((bloL f s)[k]).toNat=n:=by omega
  have hnm:n<mny f.1:=by omega
  have hw:=qls hd hact ho hnm;rw [qg5 o1 (by omega),qg5 hd hnm,hN] at hw;rw [hnt]
  show nowD d' n=_
  rw [hw]
  by_cases hjk:j=k
  ·subst hjk
   rw [if_pos hn.symm,if_pos rfl]
  ·rw [if_neg hjk,if_neg,qqo hs hkf hk,hnt]
   intro e9;exact hjk ((List.getElem_inj hnd).1 (e9.symm.trans hn.symm))
def whN (n:Nat):Nat:=max 1 ((n+127) / 128)
def padM (l:List UInt8):List UInt8:=l++List.replicate (128 - l.length) 0
def blkM (b:List UInt8):List (List UInt8):=(List.range (whN b.length)).map fun i=>padM ((b.drop (128*i)).take 128)
def curN:List UInt8:=[99,117,114,114,101,110,116]
def nexN:List UInt8:=[110,101,120,116]
theorem qai2 (n:Nat):n≤128*whN n:=by unfold whN;omega
theorem qak4 (n:Nat):1≤whN n:=by unfold whN;omega
theorem qve {n:Nat} (h:n≤16384):whN n≤128:=by unfold whN;omega
theorem qd5 (b:List UInt8):(blkM b).length=whN b.length:=by simp [blkM]
theorem qxr {l:List UInt8} (h:l.length≤128):(padM l).length=128:=by simp [padM];omega
theorem qxs (b:List UInt8) (i:Nat) (h:i<(blkM b).length):(blkM b)[i]=padM ((b.drop (128*i)).take 128):=by simp [blkM]
def fulB (b:List UInt8):List UInt8:=b++List.replicate (128*whN b.length - b.length) 0
theorem qis (b:List UInt8):(fulB b).length=128*whN b.length:=by
 have:=qai2 b.length
 simp [fulB];omega
theorem qak5 (b:List UInt8) (j:Nat) (h:j<(fulB b).length):(fulB b)[j]=b.getD j 0:=by
 unfold fulB at *
 by_cases hj:j<b.length
 ·rw [List.getElem_append_left hj,List.getD_eq_getElem?_getD,List.getElem?_eq_getElem hj];rfl
 ·rw [List.getElem_append_right (by omega),List.getElem_replicate,List.getD_eq_getElem?_getD,List.getElem?_eq_none (by omega)];rfl
theorem qagx (b:List UInt8) (i j:Nat) (h:j<(padM ((b.drop (128*i)).take 128)).length) (hj:j<128):(padM ((b.drop (128*i)).take 128))[j]=b.getD (128*i+j) 0:=by
 unfold padM at *
 by_cases h1:128*i+j<b.length
 ·have h2:j<((b.drop (128*i)).take 128).length:=by rw [List.length_take,List.length_drop];omega
  rw [List.getElem_append_left h2,List.getElem_take,List.getElem_drop,List.getD_eq_getElem?_getD,List.getElem?_eq_getElem h1];rfl
 ·have h2:¬j<((b.drop (128*i)).take 128).length:=by rw [List.length_take,List.length_drop];omega
  rw [List.getElem_append_right (by omega),List.getElem_replicate,List.getD_eq_getElem?_getD,List.getElem?_eq_none (by omega)];rfl
theorem qac4 (b:List UInt8) {i:Nat} (h:i<whN b.length):padM ((b.drop (128*i)).take 128)=((fulB b).drop (128*i)).take 128:=by
 have hl:=qis b;have h1:(padM ((b.drop (128*i)).take 128)).length=128:=qxr (by rw [List.length_take];omega);apply List.ext_getElem
 ·rw [h1,List.length_take,List.length_drop,hl];omega
 ·intro j h2 h3
  rw [h1] at h2;rw [qagx b i j _ h2,List.getElem_take,List.getElem_drop,qak5]
theorem qs8 (b:List UInt8):(blkM b).flatten=fulB b:=by
 have key:∀k,k≤whN b.length→((List.range k).map fun i=>padM ((b.drop (128*i)).take 128)).flatten=(fulB b).take (128*k):=by
  intro k
  induction k with
  | zero=>intro _;simp
  | succ k ih=>
   intro hk;rw [List.range_succ,List.map_append,List.flatten_append,ih (by omega),List.map_cons,List.map_nil,List.flatten_cons,List.flatten_nil,List.append_nil,qac4 b (by omega)]
   have e:128*(k+1)=128*k+128:=by omega
   rw [e,List.take_add]
 unfold blkM;rw [key _ (Nat.le_refl _),←qis,List.take_length]
def qcy (f:Fsd) (s b:List UInt8):Fsd × Int:=
 if fsE f≠0 then (fz,fsE f) else if 16384<b.length then (fz,3)
 else if (qau f s (whN b.length:Nat)).2≠0 then (fz,(qau f s (whN b.length:Nat)).2)
 else if (qop (qau f s (whN b.length:Nat)).1 s 0 (blkM b)).2≠0 then (fz,(qop (qau f s (whN b.length:Nat)).1 s 0 (blkM b)).2)
 else ((qop (qau f s (whN b.length:Nat)).1 s 0 (blkM b)).1,0)
def fetE (f:Fsd) (s:List UInt8) (n:Int):Int:=if qat f s≠0 then qat f s else if n<0∨((qbf f s).flatten.length:Int)<n then 2 else 0
def fetB (f:Fsd) (s:List UInt8) (n:Int):List UInt8:=if fetE f s n=0 then (qbf f s).flatten.take n.toNat else []
def savM (f:Fsd) (V:Vrs):Fsd × Int:=
 if fsE f≠0 then (fz,fsE f) else if chkV V≠0 then (fz,chkV V)
 else if (qcy f nexN (tx (verB V))).2≠0 then (fz,(qcy f nexN (tx (verB V))).2)
 else qby (qcy f nexN (tx (verB V))).1 nexN curN
def hldE (b:List UInt8):Int:=match ct b with
 | none=>8
 | some (s,r)=>if b=fulB (tx s)∧redE s=0 then 0 else 8
def hldV (b:List UInt8):Vrs:=match ct b with
 | none=>zerV
 | some (s,r)=>if b=fulB (tx s)∧redE s=0 then redV s else zerV
def lodE (f:Fsd):Int:=if qat f curN≠0 then qat f curN else hldE (qbf f curN).flatten
def lodV (f:Fsd):Vrs:=if qat f curN≠0 then zerV else hldV (qbf f curN).flatten
theorem qit {b:List UInt8} (e:ct b=none):hldE b=8:=by unfold hldE;rw [e]
theorem qml {b:List UInt8} (e:ct b=none):hldV b=zerV:=by unfold hldV;rw [e]
theorem qgh {b s r:List UInt8} (e:ct b=some (s,r)):hldE b=if b=fulB (tx s)∧redE s=0 then 0 else 8:=by unfold hldE;rw [e]
theorem qgi {b s r:List UInt8} (e:ct b=some (s,r)):hldV b=if b=fulB (tx s)∧redE s=0 then redV s else zerV:=by unfold hldV;rw [e]
theorem qak6 {V:Vrs} (h:chkV V=0):(tx (verB V)).length≤6010:=by
 have h1:=qh8 h;have h2:=qbk (verB V) (by omega);omega
theorem hld_ok {b:List UInt8} (h:hldE b=0):∃V,chkV V=0∧b=fulB (tx (verB V))∧hldV b=V:=by
 cases e:ct b with
 | none=>rw [qit e] at h;cases h
 | some p=>
  obtain ⟨s,r⟩:=p;rw [qgh e] at h
  by_cases h1:b=fulB (tx s)∧redE s=0
  ·obtain ⟨a1,a2,a3⟩:=qaj2 h1.2
   refine ⟨redV s,a2,by rw [a3];exact h1.1, ?_⟩;rw [qgi e,if_pos h1]
  ·rw [if_neg h1] at h;cases h
theorem qak7 {b:List UInt8} (h:hldE b≠0):hldE b=8∧hldV b=zerV:=by
 cases e:ct b with
 | none=>exact ⟨qit e,qml e⟩
 | some p=>
  obtain ⟨s,r⟩:=p;rw [qgh e] at h ⊢;rw [qgi e]
  by_cases h1:b=fulB (tx s)∧redE s=0
  ·rw [if_pos h1] at h;exact absurd rfl h
  ·rw [if_neg h1,if_neg h1];exact ⟨rfl,rfl⟩
theorem qagy {b:List UInt8} (h:16384<b.length):hldE b=8∧hldV b=zerV:=by
 refine qak7 fun h0=>?_
 obtain ⟨V,h1,h2,_⟩:=hld_ok h0;have h3:=qak6 h1;have h4:=qis (tx (verB V));rw [←h2] at h4
 have:whN (tx (verB V)).length≤128:=qve (by omega)
 omega
theorem qqp:∀(l:List (List UInt8)),(∀b∈l,b.length=128)→l.flatten.length=128*l.length
 | [],_=>rfl
 | b::l,h=>by
  rw [List.flatten_cons,List.length_append,qqp l (fun x hx=>h x (List.mem_cons_of_mem _ hx)),h b List.mem_cons_self,List.length_cons];omega
theorem qfb (f:Fsd) (s:List UInt8):(qbf f s).flatten.length=128*(qbf f s).length:=qqp _ qku
/-! ### what is stored -/
theorem qs9 {f:Fsd} {s:List UInt8} {l:List (List UInt8)} (hok:okFs f) (hs:qat f s=0):∀k,k≤l.length→(qdd f s 0 l k).2=0→
  okFs (qdd f s 0 l k).1∧qat (qdd f s 0 l k).1 s=0∧(qdd f s 0 l k).1.2=f.2∧k≤(qbf f s).length∧qbf (qdd f s 0 l k).1 s=l.take k++(qbf f s).drop k
 | 0,_,_=>⟨hok,hs,rfl,Nat.zero_le _,by simp [qdd]⟩
 | k+1,hk,h=>by
  rw [qdd] at h ⊢
  by_cases h0:(qdd f s 0 l k).2=0
  ·rw [if_neg (fun e=>e h0)] at h ⊢
   obtain ⟨a1,a2,a3,a4,a5⟩:=qs9 hok hs k (by omega) h0;obtain ⟨j,e,hj,hset,p1,p2,p3,p4,_⟩:=qak3 h
   obtain rfl:j=k:=by omega
   rw [a5,List.length_append,List.length_take,List.length_drop] at hj;refine ⟨p1,p4,p2.trans a3,by omega, ?_⟩;rw [hset,a5]
   have hl:(l.take j).length=j:=by rw [List.length_take];omega
   have hj2:j<(qbf f s).length:=by omega
   rw [List.set_append_right _ _ (by omega),hl,Nat.sub_self,List.drop_eq_getElem_cons hj2,List.set_cons_zero,List.take_succ_eq_append_getElem (by omega)]
   have e2:l.getD j []=l[j]:=by rw [List.getD_eq_getElem?_getD,List.getElem?_eq_getElem (by omega)];rfl
   rw [e2,List.append_assoc];rfl
  ·rw [if_pos h0] at h
   exact absurd h h0
theorem qac5 {f:Fsd} {s b:List UInt8} (h:(qcy f s b).2=0):∃y:Fsd,qcy f s b=(y,0)∧okFs f∧b.length≤16384∧(qau f s (whN b.length:Nat)).2=0∧qop (f.1,f.2.1,mkL f s (whN b.length:Nat),f.2.2.2) s 0 (blkM b)=(y,0)∧okFs y∧qat y s=0∧qbf y s=blkM b∧y.2=(f.2.1,mkL f s (whN b.length:Nat),f.2.2.2)∧
  okFs (f.1,f.2.1,mkL f s (whN b.length:Nat),f.2.2.2)∧qat (f.1,f.2.1,mkL f s (whN b.length:Nat),f.2.2.2) s=0∧(qbf (f.1,f.2.1,mkL f s (whN b.length:Nat),f.2.2.2) s).length=whN b.length:=by
 unfold qcy at h ⊢
 by_cases h0:fsE f=0
 ·rw [if_neg (fun e=>e h0)] at h ⊢
  by_cases h1:16384<b.length
  ·rw [if_pos h1] at h;cases h
  ·rw [if_neg h1] at h ⊢
   by_cases h2:(qau f s (whN b.length:Nat)).2=0
   ·rw [if_neg (fun e=>e h2)] at h ⊢
    obtain ⟨c0,c1,c2,c3,c4,_⟩:=qoo h2;rw [c1] at h ⊢
    by_cases h3:(qop (f.1,f.2.1,mkL f s (whN b.length:Nat),f.2.2.2) s 0 (blkM b)).2=0
    ·rw [if_neg (fun e=>e h3)]
     obtain ⟨p1,p2,p3,p4,p5⟩:=qs9 c2 c3 (blkM b).length (Nat.le_refl _) h3
     have hlen:(qbf (f.1,f.2.1,mkL f s (whN b.length:Nat),f.2.2.2) s).length=whN b.length:=by
      have:=qir c3
      rw [c4] at this;omega
     refine ⟨_,rfl,c0,by omega,rfl,Prod.ext rfl h3,p1,p2, ?_,p3,c2,c3,hlen⟩
     refine p5.trans ?_
     rw [List.take_length,qd5,List.drop_eq_nil_of_le (by omega),List.append_nil]
    ·rw [if_pos h3] at h;exact absurd h h3
   ·rw [if_pos h2] at h;exact absurd h h2
 ·rw [if_pos h0] at h;exact absurd h h0
theorem qxt {f:Fsd} {s b:List UInt8} (h:(qcy f s b).2≠0):(qcy f s b).1=fz:=by
 unfold qcy at *
 split
 ·rfl
 ·split
  ·rfl
  ·split
   ·rfl
   ·split
    ·rfl
    ·rename_i h0 h1 h2 h3
     rw [if_neg h0,if_neg h1,if_neg h2,if_neg h3] at h;exact absurd rfl h
theorem qxu {f:Fsd} {s:List UInt8} {at0:Int} {l:List (List UInt8)}:∀k,(qdd f s at0 l k).2≠0→(qdd f s at0 l k).1=fz
 | 0,h=>absurd rfl h
 | k+1,h=>by
  rw [qdd] at h ⊢
  split at h
  ·rename_i h0;rw [if_pos h0];exact qxu k h0
  ·rename_i h0;rw [if_neg h0];exact qak1 h
def stoN (f:Fsd) (s b:List UInt8) (k:Nat):Fsd × Int:=
 if (qau f s (whN b.length:Nat)).2≠0 then qau f s (whN b.length:Nat) else qdd (qau f s (whN b.length:Nat)).1 s 0 (blkM b) k
theorem qta (f:Fsd) (s b:List UInt8):stoN f s b 0=qau f s (whN b.length:Nat):=by
 unfold stoN
 split
 ·rfl
 ·rename_i h
  rw [qdd];exact Prod.ext rfl (Decidable.not_not.1 h).symm
theorem qtb {f:Fsd} {s b:List UInt8} {k:Nat} (h:(stoN f s b k).2=0) (hk:k<(blkM b).length):stoN f s b (k+1)=qcs (stoN f s b k).1 s k (blkM b)[k]:=by
 by_cases h0:(qau f s (whN b.length:Nat)).2≠0
 ·unfold stoN at h
  rw [if_pos h0] at h;exact absurd h h0
 ·have e:∀j,stoN f s b j=qdd (qau f s (whN b.length:Nat)).1 s 0 (blkM b) j:=fun j=>by unfold stoN;rw [if_neg h0]
  rw [e] at h;rw [e,e,qdd,if_neg (fun h9=>h9 h),List.getD_eq_getElem?_getD,List.getElem?_eq_getElem hk,Int.zero_add];rfl
theorem qkv {f:Fsd} {s b:List UInt8} {k:Nat} (h0:fsE f=0) (h1:b.length≤16384) (hk:k≤whN b.length) (he:k=whN b.length∨(stoN f s b k).2≠0):qcy f s b=stoN f s b k:=by
 have hT:stoN f s b k=stoN f s b (whN b.length):=by
  rcases he with rfl | he
  ·rfl
  ·unfold stoN at he ⊢
   by_cases c:(qau f s (whN b.length:Nat)).2≠0
   ·rw [if_pos c,if_pos c]
   ·rw [if_neg c] at he
    rw [if_neg c,if_neg c]
    have:=qs7 he (whN b.length - k)
    rw [←this];congr 1;omega
 rw [hT];unfold qcy stoN;rw [if_neg (by rw [h0];simp),if_neg (by omega)]
 by_cases c:(qau f s (whN b.length:Nat)).2≠0
 ·rw [if_pos c,if_pos c]
  exact Prod.ext (qagv c).symm rfl
 ·rw [if_neg c,if_neg c]
  unfold qop;rw [qd5]
  by_cases p:(qdd (qau f s (whN b.length:Nat)).1 s 0 (blkM b) (whN b.length)).2≠0
  ·rw [if_pos p]
   exact Prod.ext (qxu _ p).symm rfl
  ·rw [if_neg p]
   exact Prod.ext rfl (Decidable.not_not.1 p).symm
theorem qac6 {f:Fsd} {s b:List UInt8} (h:¬fsE f=0):qcy f s b=(fz,fsE f):=by unfold qcy;rw [if_pos h]
theorem qac7 {f:Fsd} {s b:List UInt8} (h0:fsE f=0) (h:16384<b.length):qcy f s b=(fz,3):=by unfold qcy;rw [if_neg (by rw [h0];simp),if_pos h]
def fetN (L:List UInt8) (n k:Nat):List UInt8:=(L.take n).take (128*k)++List.replicate (n - 128*k) 0
theorem qac8 (L:List UInt8) (n:Nat):fetN L n 0=List.replicate n 0:=by unfold fetN;simp
theorem qagz {L:List UInt8} {n:Nat} (h:n≤L.length) (k:Nat):(fetN L n k).length=n:=by
 unfold fetN;rw [List.length_append,List.length_take,List.length_take,List.length_replicate];omega
theorem qag0 {L:List UInt8} {n k:Nat} (h:n≤128*k):fetN L n k=L.take n:=by
 unfold fetN;rw [List.take_of_length_le (by rw [List.length_take];omega),show n - 128*k=0 by omega]
 simp
theorem qac9 {L:List UInt8} {n k:Nat} (hn:n≤L.length) (hk:128*k<n) (hb:128*k+128≤L.length):splice (fetN L n k) (128*k) (((L.drop (128*k)).take 128).take (n - 128*k))=fetN L n (k+1):=by
 have hl1:((L.take n).take (128*k)).length=128*k:=by rw [List.length_take,List.length_take];omega
 have e1:((L.drop (128*k)).take 128).take (n - 128*k)=((L.take n).drop (128*k)).take 128:=by rw [List.drop_take,List.take_take,List.take_take,Nat.min_comm]
 have hl2:(((L.take n).drop (128*k)).take 128).length=min (n - 128*k) 128:=by rw [List.length_take,List.length_drop,List.length_take];omega
 rw [e1];unfold splice fetN;rw [hl2,List.take_left' hl1]
 have e3:((L.take n).take (128*k)++List.replicate (n - 128*k) (0:UInt8)).drop (128*k+min (n - 128*k) 128)=List.replicate (n - 128*(k+1)) 0:=by
  rw [List.drop_append,List.drop_eq_nil_of_le (by rw [hl1];omega),List.nil_append,hl1,List.drop_replicate]
  have e4:n - 128*k - (128*k+min (n - 128*k) 128 - 128*k)=n - 128*(k+1):=by omega
  rw [e4]
 rw [e3,←List.append_assoc,show 128*(k+1)=128*k+128 by omega,List.take_add]
theorem qoq:∀{l:List (List UInt8)} (h:∀b∈l,b.length=128) {k:Nat} (hk:k<l.length),l[k]=(l.flatten.drop (128*k)).take 128
 | x::l,h,0,_=>by
  have hx:=h x List.mem_cons_self;rw [List.getElem_cons_zero,List.flatten_cons,Nat.mul_zero,List.drop_zero,←hx,List.take_left]
 | x::l,h,k+1,hk=>by
  have hx:=h x List.mem_cons_self;rw [List.getElem_cons_succ,List.flatten_cons,List.drop_append,List.drop_eq_nil_of_le (by omega),List.nil_append,hx,show 128*(k+1) - 128=128*k by omega];exact qoq (fun b hb=>h b (List.mem_cons_of_mem _ hb)) (by simpa using hk)
theorem qzf {f:Fsd} {s:List UInt8} {k:Nat} (hk:k<(qbf f s).length):(qbf f s)[k]=((qbf f s).flatten.drop (128*k)).take 128:=qoq qku hk
theorem qai3 {f:Fsd} {s:List UInt8} {n:Int} (h:¬qat f s=0):fetE f s n=qat f s∧fetB f s n=[]:=by
 have e:fetE f s n=qat f s:=by unfold fetE;rw [if_pos h]
 exact ⟨e,by unfold fetB;rw [e,if_neg h]⟩
theorem qai4 {f:Fsd} {s:List UInt8} {n:Int} (h0:qat f s=0) (h:n<0∨(128*(qbf f s).length:Int)<n):fetE f s n=2∧fetB f s n=[]:=by
 have e:fetE f s n=2:=by unfold fetE;rw [if_neg (by rw [h0];simp),if_pos (by rw [qfb];push_cast;exact h)]
 exact ⟨e,by unfold fetB;rw [e,if_neg (by decide)]⟩
theorem qada {f:Fsd} {s:List UInt8} {n:Nat} (h0:qat f s=0) (h:n≤128*(qbf f s).length):fetE f s n=0∧fetB f s n=(qbf f s).flatten.take n:=by
 have e:fetE f s n=0:=by
  unfold fetE;rw [if_neg (by rw [h0];simp),if_neg]
  rw [qfb];push_cast;omega
 exact ⟨e,by unfold fetB;rw [e,if_pos rfl,Int.toNat_natCast]⟩
section
variable {α:Type}
def LieG (sz:Nat) (ec:α→List Value) (w:World) (b off:Nat) (l:List α):Prop:=∀j,(h:j<l.length)→∀i u,(ec l[j])[i]? =some u→w.cell? ⟨b,off+j*sz+i,none⟩=some u
def RdG (sz:Nat) (ec:α→List Value) (w:World) (v:Value) (l:List α):Prop:=
 (l=[]∧(v=.slice none 0 0∨∃a c,v=.slice (some a) 0 c))∨
 ∃b off c,v=.slice (some ⟨b,off,none⟩) l.length c∧l.length≤c∧c≤maxLen∧LieG sz ec w b off l
def OwG (sz:Nat) (ec:α→List Value) (t:TypeId) (w:World) (base:Nat) (v:Value) (l:List α):Prop:=w.ownsRow base t sz v l.length (l.flatMap ec)
variable {sz:Nat} {ec:α→List Value} {t:TypeId}
theorem LieG.carry {w w':World} {b off:Nat} {l:List α} (h:LieG sz ec w b off l) (hb:Below w.heap.size w w'):LieG sz ec w' b off l:=by
 intro j hj i u hu;have h0:=h j hj i u hu
 rw [hb.cell (World.block_lt_of_cell? w _ h0)];exact h0
theorem RdG.carry {w w':World} {v:Value} {l:List α} (h:RdG sz ec w v l) (hb:Below w.heap.size w w'):RdG sz ec w' v l:=by
 rcases h with h | ⟨b,off,c,rfl,hc,hm,hl⟩
 ·exact .inl h
 ·exact .inr ⟨b,off,c,rfl,hc,hm,hl.carry hb⟩
theorem RdG.form {w:World} {v:Value} {l:List α} (h:RdG sz ec w v l):∃a c,v=.slice a l.length c:=by
 rcases h with ⟨rfl,rfl | ⟨a,c,rfl⟩⟩ | ⟨b,off,c,rfl,_⟩<;>exact ⟨_,_,rfl⟩
theorem RdG.len {w:World} {a:Option Addr} {n c:Nat} {l:List α} (h:RdG sz ec w (.slice a n c) l):n=l.length:=by
 obtain ⟨_,_,e⟩:=h.form;cases e;rfl
theorem RdG.atB {w w':World} {a:Option Addr} {n c:Nat} {l:List α} (h:RdG sz ec w (.slice a n c) l) (hb:Below w.heap.size w w') (j:Nat) (hj:j<l.length):
  ∃b off,a=some ⟨b,off,none⟩∧∀i u,(ec l[j])[i]? =some u→w'.cell? ⟨b,off+j*sz+i,none⟩=some u:=by
 rcases h.carry hb with ⟨rfl,_⟩ | ⟨b,off,c',e,_,_,hc⟩
 ·exact absurd hj (by simp)
 ·cases e
  exact ⟨b,off,rfl,hc j hj⟩
theorem qiu (hsz:∀x,(ec x).length=sz):∀l:List α,(l.flatMap ec).length=l.length*sz
 | []=>by simp
 | x::l=>by rw [List.flatMap_cons,List.length_append,hsz,qiu hsz l,List.length_cons,Nat.add_mul];omega
theorem qiv (hsz:∀x,(ec x).length=sz):∀(l:List α) (j:Nat) (h:j<l.length) (i:Nat),i<sz→(l.flatMap ec)[j*sz+i]? =(ec l[j])[i]?
 | x::l,0,h,i,hi=>by
  rw [List.flatMap_cons,List.getElem?_append_left (by rw [hsz];omega)];simp
 | x::l,j+1,h,i,hi=>by
  have h0:=hsz x;rw [List.flatMap_cons,List.getElem?_append_right (by rw [hsz,Nat.add_mul];omega),hsz,show (j+1)*sz+i - sz=j*sz+i by rw [Nat.add_mul];omega]
  simpa using qiv hsz l j (by simpa using h) i hi
theorem qag1 (hsz:∀x,(ec x).length=sz) {l:List α} {j:Nat} (h:j<l.length) {i:Nat} {u:Value} (hu:(ec l[j])[i]? =some u):(l.flatMap ec)[j*sz+i]? =some u:=by
 have hi:i<sz:=by rw [←hsz l[j]];exact (List.getElem?_eq_some_iff.1 hu).1
 rw [qiv hsz l j h i hi];exact hu
theorem qag2 (hsz:∀x,(ec x).length=sz) (h0:0<sz) {l:List α} {k:Nat} {u:Value} (hu:(l.flatMap ec)[k]? =some u):∃j,∃h:j<l.length,∃i,i<sz∧k=j*sz+i∧(ec l[j])[i]? =some u:=by
 have hk:=(List.getElem?_eq_some_iff.1 hu).1;rw [qiu hsz] at hk;have hj:k / sz<l.length:=(Nat.div_lt_iff_lt_mul h0).2 hk;have hi:k % sz<sz:=Nat.mod_lt _ h0;have e:k=k / sz*sz+k % sz:=(Nat.div_add_mod' k sz).symm;refine ⟨k / sz,hj,k % sz,hi,e, ?_⟩
 rw [←qiv hsz l (k / sz) hj (k % sz) hi,←e];exact hu
theorem OwG.rd (hsz:∀x,(ec x).length=sz) {w:World} {base:Nat} {v:Value} {l:List α} (h:OwG sz ec t w base v l):RdG sz ec w v l:=by
 rcases h.2 with ⟨rfl,hn⟩ | ⟨g,cap,cur,rfl,_,hg,hn,hm,hs,htake⟩
 ·exact .inl ⟨List.length_eq_zero_iff.1 hn,.inl rfl⟩
 ·refine .inr ⟨g,0,cap,rfl,hn,hm,fun j hj i u hu=>?_⟩
  have:=World.ownsRow.cells h (g:=g) rfl (j*sz+i) u (qag1 hsz hj hu)
  simpa [Addr.add_lit,Nat.add_assoc] using this
theorem OwG.form {w:World} {base:Nat} {v:Value} {l:List α} (h:OwG sz ec t w base v l):∃a c,v=.slice a l.length c:=by
 rcases h.2 with ⟨rfl,hn⟩ | ⟨g,cap,cur,rfl,_⟩
 ·rw [hn];exact ⟨_,_,rfl⟩
 ·exact ⟨_,_,rfl⟩
theorem OwG.carry {w w':World} {base:Nat} {v:Value} {l:List α} (h:OwG sz ec t w base v l) (hb:Below w.heap.size w w'):OwG sz ec t w' base v l:=qa7 h hb
theorem OwG.mono {w:World} {base base':Nat} {v:Value} {l:List α} (h:OwG sz ec t w base v l) (hb:base'≤base):OwG sz ec t w base' v l:=by
 refine ⟨h.1, ?_⟩
 rcases h.2 with h | ⟨g,cap,cur,e,h1,h2⟩
 ·exact .inl h
 ·exact .inr ⟨g,cap,cur,e,Nat.le_trans hb h1,h2⟩
theorem OwG.nil (w:World) (base:Nat):OwG sz ec t w base (.slice none 0 0) ([]:List α):=World.ownsRow_nil w base _ _
def KeepG (t0:TypeId) (w w':World):Prop:=∀(k:Nat) (cs:Array Value) (t:TypeId) (fr:Nat × Nat),t≠t0→w.heap[k]? =some (Obj.cells cs t fr)→w'.heap[k]? =some (Obj.cells cs t fr)
theorem KeepG.trans {t0:TypeId} {w w1 w2:World} (h:KeepG t0 w w1) (k:KeepG t0 w1 w2):KeepG t0 w w2:=fun j cs t fr ht hj=>k j cs t fr ht (h j cs t fr ht hj)
theorem KeepG.below {t0:TypeId} {w w':World} (h:Below w.heap.size w w'):KeepG t0 w w':=fun j cs t fr _ hj=>(h.block j (Array.getElem?_eq_some_iff.1 hj).1).trans hj
theorem qiw {w w':World} {base:Nat} {v:Value} {l:List α} (h:OwG sz ec t w base v l) (hg:w.grownBy w' v.ownBlock):KeepG t w w':=by
 intro j cs t' fr ht hj;rw [hg.block j (Array.getElem?_eq_some_iff.1 hj).1 ?_]
 ·exact hj
 ·intro e
  rcases h.2 with ⟨rfl,hn⟩ | ⟨g,cap,cur,rfl,_,hg2,_⟩
  ·cases e
  ·cases e
   rw [hj] at hg2;cases hg2;exact ht rfl
section
variable {P:Program} {ts:TypeId} {z:Value} {by_:Nat}
theorem qag3 (hsz:∀x,(ec x).length=sz) (h0:0<sz) (hone:∀x,∀u∈ec x,u.oneCell'=true) (hts:P.underlying ts=some (.slice t)) (hinfo:(P.info? t).map (fun i=>(i.zero,i.size,i.bytes))=some (some z,sz,by_)) (hz:z.cells.size=sz)
  {w:World} {base:Nat} {v:Value} {l:List α} (h:OwG sz ec t w base v l) (hb:base≤w.heap.size) (hl:(l.length+1)*by_≤140737488355328) (hl2:l.length+1≤maxLen) (x:α) (cs:Array Value) (hcs:cs.toList=ec x):
  ∃g c w',(Builtin.append_ #[ts,ts] ts #[v,.slice (some ⟨w.heap.size,0,none⟩) 1 1]).run P (w.alloc (.cells cs t))=.ok (.slice (some ⟨g,0,none⟩) (l.length+1) c) w'∧
   OwG sz ec t w' base (.slice (some ⟨g,0,none⟩) (l.length+1) c) (l++[x])∧Below base w w'∧KeepG t w w':=by
 obtain ⟨w8,ew8⟩:∃w8,w8=w.alloc (.cells cs t):=⟨_,rfl⟩
 have hn8:∀j u,(ec x)[j]? =some u→w8.cell? ((⟨w.heap.size,0,none⟩:Addr).add j)=some u:=by
  intro j u hj
  have:=World.news_of_block (w:=w.alloc (.cells cs t)) (heap_alloc_new w _) j u (by rw [←hcs] at hj;simpa using hj)
  rw [ew8];simpa using this
 rw [←ew8]
 have hb8:Below w.heap.size w w8:=by rw [ew8];exact (Below.refl _ _).alloc (Nat.le_refl _) _
 obtain ⟨i0,hi,hz0,hz1,hz2⟩:=info_parts hinfo;have q2:w8.ownsRow base t sz v l.length (l.flatMap ec):=qa7 h hb8;obtain ⟨v9,w9,hrun9,hown9,hg9,_⟩:=run_append_own (P:=P) w8 base ts ts t i0 z sz by_ hts hi hz0 hz1 hz2 hz h0 _ _ _ q2 ⟨w.heap.size,0,none⟩ 1 1 (ec x) (by rw [hsz];omega) hn8 (hone x) hl2 hl (Nat.le_trans hb hb8.size)
 have hb9:Below base w w9:=(hb8.mono hb).grown hg9 (Nat.le_trans hb hb8.size) fun k hk=>(q2.lt k hk).1
 rcases hown9.2 with ⟨_,h1⟩ | ⟨g,cap,cur,h1,_⟩
 ·exact absurd h1 (by omega)
 ·subst h1
  refine ⟨g,cap,w9,hrun9, ?_,hb9,(KeepG.below hb8).trans (qiw (l:=l) (ec:=ec) q2 hg9)⟩
  have e:(l++[x]).flatMap ec=l.flatMap ec++ec x:=by simp
  unfold OwG;rw [e,List.length_append];exact hown9
theorem qag4 (hsz:∀x,(ec x).length=sz) (h0:0<sz) (hone:∀x,∀u∈ec x,u.oneCell'=true) (hts:P.underlying ts=some (.slice t)) (hinfo:(P.info? t).map (fun i=>(i.zero,i.size,i.bytes))=some (some z,sz,by_)) (hz:z.cells.size=sz)
  {w:World} {base:Nat} {v:Value} {l:List α} (h:OwG sz ec t w base v l) (hb:base≤w.heap.size) {a:Option Addr} {n c:Nat} {m:List α} (hm:RdG sz ec w (.slice a n c) m) (hl:(l.length+m.length)*by_≤140737488355328) (hl2:l.length+m.length≤maxLen):
  ∃b c' w',(Builtin.append_ #[ts,ts] ts #[v,.slice a n c]).run P w=.ok (.slice b (l++m).length c') w'∧OwG sz ec t w' base (.slice b (l++m).length c') (l++m)∧Below base w w'∧KeepG t w w':=by
 obtain rfl:=hm.len;obtain ⟨i0,hi,hz0,hz1,hz2⟩:=info_parts hinfo;have q2:w.ownsRow base t sz v l.length (l.flatMap ec):=h
 have key:∀ad:Addr,a=some ad→(∀j u,(m.flatMap ec)[j]? =some u→w.cell? (ad.add j)=some u)→∃b c' w',(Builtin.append_ #[ts,ts] ts #[v,.slice a m.length c]).run P w=.ok (.slice b (l++m).length c') w'∧OwG sz ec t w' base (.slice b (l++m).length c') (l++m)∧Below base w w'∧KeepG t w w':=by
  rintro ad rfl hn8
  obtain ⟨v9,w9,hrun9,hown9,hg9,_⟩:=run_append_own (P:=P) w base ts ts t i0 z sz by_ hts hi hz0 hz1 hz2 hz h0 _ _ _ q2 ad m.length c (m.flatMap ec) (qiu hsz m) hn8 (by
   intro u hu;obtain ⟨x,_,hx⟩:=List.mem_flatMap.1 hu
   exact hone x u hx) hl2 hl hb
  have hb9:Below base w w9:=(Below.refl _ _).grown hg9 hb fun k hk=>(q2.lt k hk).1
  rw [←List.length_append,←List.flatMap_append] at hown9;have ho:OwG sz ec t w9 base v9 (l++m):=hown9;obtain ⟨b,c',rfl⟩:=ho.form;exact ⟨b,c',w9,hrun9,ho,hb9,qiw h hg9⟩
 rcases hm with ⟨rfl,e | ⟨x,d,e⟩⟩ | ⟨b,off,c',e,hc,hmm,hcell⟩
 ·cases e
  obtain ⟨b,c',rfl⟩:=h.form;refine ⟨b,c',w, ?_,by simpa using h,Below.refl _ _,KeepG.below (Below.refl _ _)⟩;rw [List.append_nil];exact run_append_owned_none (P:=P) (w:=w) base ts ts t i0 sz hts hi _ _ _ q2
 ·cases e
  exact key _ rfl (fun j u hj=>by simp at hj)
 ·cases e
  refine key _ rfl fun k u hk=>?_
  obtain ⟨j,hj,i,hi2,e,hu⟩:=qag2 hsz h0 hk
  have:=hcell j hj i u hu
  rw [Addr.add_lit,e,←Nat.add_assoc];exact this
end
end
end Go.Proofs.YtmeaiocohalphaaGreatDoor
