/-
  Plain mathematics of files on a disk: files that are made, deleted and renamed.
-/
import Derived.Test.YtmeaiocohalphaaGreatDoorMathFs3
namespace Go.Proofs.YtmeaiocohalphaaGreatDoor
open Go.RowKit
set_option linter.all false
theorem qny {s:Stp} {f:Fsd}:endW (qaf s (qav f))=if fsE f≠0 then (fz,fsE f) else if (s (qav f)).2≠0 then (fz,(s (qav f)).2) else ((s (qav f)).1.1,0):=by
 by_cases h:fsE f=0
 ·rw [qio (show (qav f).2.1=0 from h),if_neg (by rw [h];decide)]
  rfl
 ·rw [qb2 (show (qav f).2.1≠0 from h),if_pos h]
  unfold endW;rw [if_pos (show (qav f).2.1≠0 from h)];rfl
theorem qaa8 (f:Fsd) (s:List UInt8) (i:Int) (b:List UInt8):qdh f s i b=if fsE f≠0 then (fz,fsE f) else if atE f s i≠0 then (fz,atE f s i) else if (doD f.1 [(false,atN f s i,b)] 1).2≠0 then (fz,(doD f.1 [(false,atN f s i,b)] 1).2) else (((doD f.1 [(false,atN f s i,b)] 1).1,f.2),0):=by
 unfold qdh;rw [qny]
 by_cases h:fsE f≠0
 ·rw [if_pos h,if_pos h]
 ·rw [if_neg h,if_neg h]
  by_cases h1:atE f s i≠0
  ·have e:putW s i b (qav f)=(qav f,atE f s i):=by unfold putW;rw [if_pos (show atE (qav f).1 s i≠0 from h1)];rfl
   rw [e,if_pos h1,if_pos h1]
  ·have e:putW s i b (qav f)=qdi (atN f s i) b (qav f):=by unfold putW;rw [if_neg (show ¬atE (qav f).1 s i≠0 from h1)];rfl
   rw [e,if_neg h1];rfl
theorem qip (f:Fsd):qdq f=if fsE f≠0 then (fz,fsE f) else ((((f.1.1,f.1.2.1,[]):Dk),f.2),0):=by
 unfold qdq;rw [qny]
 by_cases h:fsE f≠0
 ·rw [if_pos h,if_pos h]
 ·rw [if_neg h,if_neg h]
  have h0:=qh9 (Decidable.not_not.1 h)
  have e:qes (qav f)=(qla (qav f) (f.1.1,f.1.2.1,[]),0):=by
   unfold qes qeq
   have:chk (qav f).1.1=0:=qe4 (qam h0).1
   rw [this];rfl
  rw [e];rfl
theorem qpk {f:Fsd} {l:List Fl} {e:Int} (h:(qd6 f l e).2=0):fsE f=0∧e=0∧qd6 f l e=((f.1,f.2.1,l,f.2.2.2),0):=by
 unfold qd6 at *
 split at h
 ·rename_i h0;exact absurd h h0
 ·rename_i h0
  split at h
  ·rename_i h1;exact absurd h h1
  ·rename_i h1
   rw [if_neg h0,if_neg h1];exact ⟨Decidable.not_not.1 h0,Decidable.not_not.1 h1,rfl⟩
theorem qaa9 {f:Fsd} {l:List Fl} (h:fsE f=0):qd6 f l 0=((f.1,f.2.1,l,f.2.2.2),0):=by
 unfold qd6;rw [if_neg (by rw [h];decide),if_neg (by decide)]
theorem ql2 {f:Fsd} {l:List Fl} (h:okFs f) (hl:chkF l (mny f.1)=0):okFs (f.1,f.2.1,l,f.2.2.2):=
 qpj h (qam h).1 rfl (fun _ _=>rfl) h.2.2.1 hl
/-! ### the example -/
section
variable {x:List UInt8}
end
def qfb (f:Fsd) (s:List UInt8):List UInt8:=if qat f s≠0 then [] else (bloL f s).flatMap fun n=>nowD f.1 n.toNat
theorem qdy {f:Fsd} (h:okFs f):mayF f.2.2.1 (mny f.1):=(qbd h.2.2.2.2.2).2
theorem qaba {l m:List Ex} {b:Int} (h:extP m b) (hs:l.Sublist m):chkX l=0:=(quf hs h).1
theorem qi9 {fs:List Fl} {g:Fl} (h:g∈fs):g.2.Sublist (qar fs):=by
 have h1:[g].Sublist fs:=List.singleton_sublist.2 h
 have:=qug h1
 simpa [qar] using this
theorem qcv {f:Fsd} (h:okFs f) {g:Fl} (hg:g∈f.2.2.1):qa4 f.2.2.1 g.1=0∧getF f.2.2.1 g.1=g.2∧bloE f g.1=0∧bloL f g.1=qao g.2∧qat f g.1=0:=by
 have hm:=qdy h;have h1:isF f.2.2.1 g.1=true:=(qhd _ _).2 ⟨g.2,hg⟩
 have h2:qb7 g.1=true:=by
  have:=hm.2.1.1 g hg
  unfold oneF at this
  simp only [Bool.and_eq_true] at this
  exact this.1.1
 have h3:=(qhw h.2.2.2.2.2 h2 h1).1;have h4:getF f.2.2.1 g.1=g.2:=qgl hm.2.1.2 hg;have h5:chkX g.2=0:=qaba hm.2.2.1 (qi9 hg)
 have h6:bloE f g.1=0:=by unfold bloE;rw [if_neg (by rw [h3];decide),h4,h5]
 have h7:bloL f g.1=qao g.2:=by unfold bloL qfm;rw [if_neg (by rw [h3];decide),h4,if_pos h5]
 refine ⟨h3,h4,h6,h7, ?_⟩;unfold qat;rw [if_neg (by rw [qci h];decide),h6]
theorem qafy {f:Fsd} (h:okFs f) {g:Fl} (hg:g∈f.2.2.1):g.1≠[]:=by
 have:=(qdy h).2.1.1 g hg
 unfold oneF qb7 at this
 simp only [Bool.and_eq_true,decide_eq_true_eq] at this
 intro e;rw [e] at this
 simp at this
theorem qdu {f:Fsd} {s:List UInt8} (h:qat f s=0):okFs f∧∃l,(s,l)∈f.2.2.1:=by
 unfold qat at h
 by_cases h0:fsE f=0
 ·rw [if_neg (by rw [h0];decide)] at h
  have hok:=qh9 h0;unfold bloE at h
  by_cases h1:qa4 f.2.2.1 s=0
  ·exact ⟨hok,(qhd _ _).1 (qm1 h1).2.2⟩
  ·rw [if_pos h1] at h;exact absurd h h1
 ·rw [if_pos h0] at h;exact absurd h h0
theorem qtj {l:List Ex} {n:Int} (h:n∈qao l):∃x∈l,x.1≤n∧n<x.1+x.2:=by
 obtain ⟨x,hx,hn⟩:=List.mem_flatMap.1 h;refine ⟨x,hx, ?_⟩;unfold blkX at hn;obtain ⟨i,hi,rfl⟩:=List.mem_map.1 hn
 have:=List.mem_range.1 hi
 omega
theorem qakx {f:Fsd} (h:okFs f) {g:Fl} (hg:g∈f.2.2.1):∀n∈qao g.2,34≤n∧n<mny f.1:=by
 intro n hn;obtain ⟨x,hx,h1,h2⟩:=qtj hn
 have:=qdx (qdy h).2.2.1 x ((qi9 hg).subset hx)
 omega
theorem qcr {f:Fsd} {s:List UInt8} (h:qat f s=0):∀n∈bloL f s,34≤n∧n<mny f.1:=by
 obtain ⟨h0,l,hl⟩:=qdu h;rw [(qcv h0 hl).2.2.2.1];exact qakx h0 hl
theorem qpl {f:Fsd} {s:List UInt8} (h:qat f s=0):okFs f∧bloE f s=0∧qk9 f s=(bloL f s).length:=by
 obtain ⟨h0,l,hl⟩:=qdu h;refine ⟨h0,(qcv h0 hl).2.2.1, ?_⟩;unfold qk9;rw [if_neg (by rw [qci h0];decide)]
theorem qru {f:Fsd} {s:List UInt8} (h:qat f s=0) {i:Nat} (hi:i<(bloL f s).length):atE f s i=0∧atN f s i=(bloL f s)[i]∧getE f s i=0∧getL f s i=nowD f.1 ((bloL f s)[i]).toNat:=by
 obtain ⟨h0,h1,_⟩:=qpl h;have hr:=qcr h _ (List.getElem_mem hi)
 have a1:atE f s i=0:=by unfold atE;rw [if_neg (by rw [h1];decide),if_neg (by omega)]
 have a2:atN f s i=(bloL f s)[i]:=by unfold atN;rw [if_neg (by rw [a1];decide)];simp [List.getD,List.getElem?_eq_getElem hi]
 have a3:qfv f.1 ((bloL f s)[i])=(nowD f.1 ((bloL f s)[i]).toNat,0):=by
  unfold qfv;rw [if_neg (by rw [qe4 (qam h0).1];decide),if_neg (by omega)]
 refine ⟨a1,a2, ?_, ?_⟩
 ·unfold getE;rw [if_neg (by rw [qci h0];decide),if_neg (by rw [a1];decide),a2,a3]
 ·unfold getL;rw [if_neg (by rw [qci h0];decide),if_neg (by rw [a1];decide),a2,a3]
theorem qtk {d:Dk} {n:Nat} (h:okD d=true) (hn:n<mny d):(nowD d n).length=128:=by
 unfold nowD;have h1:=(qbm d).1 h
 cases e:qb1 (n:Int) d.2.1 with
 | some b=>
  have:∀(l:List Pu),(∀p∈l,putE (mny d) p=0)→∀b,qb1 (n:Int) l=some b→b.length=128:=by
   intro l
   induction l with
   | nil=>intro _ b hb;cases hb
   | cons p l ih=>
    intro hp b hb;unfold qb1 at hb
    cases e2:qb1 (n:Int) l with
    | some b'=>rw [e2] at hb;cases hb;exact ih (fun q hq=>hp q (List.mem_cons_of_mem _ hq)) _ e2
    | none=>
     rw [e2] at hb
     simp only at hb
     split at hb
     ·cases hb;exact (qda (hp p (List.mem_cons_self ..))).2.2
     ·cases hb
  exact this _ h1.2.2.2.2.2.1 b e
 | none=>
  show (blk d.1 n).length=128
  unfold blk;rw [List.length_take,List.length_drop,qi8 h];omega
theorem ql3 {f g:Fsd} {s:List UInt8} (h1:qat f s=0) (h2:qat g s=0) (hl:bloL g s=bloL f s) (hb:∀n∈bloL f s,nowD g.1 n.toNat=nowD f.1 n.toNat):qfb f s=qfb g s:=by
 unfold qfb;rw [if_neg (by rw [h1];decide),if_neg (by rw [h2];decide),hl]
 have:∀(l:List Int),(∀n∈l,nowD g.1 n.toNat=nowD f.1 n.toNat)→(l.flatMap fun n=>nowD f.1 n.toNat)=l.flatMap fun n=>nowD g.1 n.toNat:=by
  intro l
  induction l with
  | nil=>intro _;rfl
  | cons a l ih=>intro h;rw [List.flatMap_cons,List.flatMap_cons,h a (List.mem_cons_self ..),ih (fun n hn=>h n (List.mem_cons_of_mem _ hn))]
 exact this _ hb
theorem qho {f g:Fsd} (h:g.2.2.1=f.2.2.1) (s:List UInt8):bloL g s=bloL f s∧bloE g s=bloE f s:=by
 unfold bloL bloE;rw [h];exact ⟨rfl,rfl⟩
theorem qiq {f g:Fsd} (h:g.2.2.1=f.2.2.1) (hf:okFs f) (hg:okFs g) (s:List UInt8):qat g s=qat f s:=by
 unfold qat;rw [qci hf,qci hg,(qho h s).2]
theorem OwFs.bx {w:World} {base:Nat} {v:Value} {f:Fsd} (h:OwFs w base v f):∃x:FsV,v=x.val∧RdX w x f∧OwFs w base x.val f:=by
 obtain ⟨x,e,hx⟩:=h.form;exact ⟨x,e,hx,e ▸ h⟩
theorem FsV.ext_val {x y:FsV} (h:x.val=y.val):x=y:=by
 obtain ⟨a1,n1,c1,a2,n2,c2,a3,n3,c3,g,a4,n4,c4,a5,n5,c5⟩:=x;obtain ⟨b1,m1,d1,b2,m2,d2,b3,m3,d3,g',b4,m4,d4,b5,m5,d5⟩:=y
 injection h with h
 have e0:=congrArg (fun z:Array Value=>z[0]!) h;have e1:=congrArg (fun z:Array Value=>z[1]!) h;have e2:=congrArg (fun z:Array Value=>z[2]!) h;have e3:=congrArg (fun z:Array Value=>z[3]!) h;have e4:=congrArg (fun z:Array Value=>z[4]!) h;have e5:=congrArg (fun z:Array Value=>z[5]!) h
 simp at e0 e1 e2 e3 e4 e5
 obtain ⟨rfl,rfl,rfl⟩:=e0;obtain ⟨rfl,rfl,rfl⟩:=e1;obtain ⟨rfl,rfl,rfl⟩:=e2
 have e3:g=g':=by omega
 subst e3;obtain ⟨rfl,rfl,rfl⟩:=e4;obtain ⟨rfl,rfl,rfl⟩:=e5;rfl
theorem FsB.of {w:World} {q:Nat} {x:FsV} (h:FsAt w q x):FsB w q:=⟨_,_,_,_,_,_,h⟩
theorem OwFs.assign {w w0:World} {base q:Nat} {y:FsV} {f:Fsd} (h:OwFs w base y.val f) (hq:FsB w q) (hb:Below w0.heap.size w0 w) (hq0:w0.heap.size≤q):
  OwFs (set6 w q y) base y.val f∧Below w0.heap.size w0 (set6 w q y)∧FsAt (set6 w q y) q y∧RdX (set6 w q y) y f∧w.grownBy (set6 w q y) (some q):=by
 obtain ⟨h1,h2,h3⟩:=h.stored hq hb hq0;refine ⟨h1,h2,h3, ?_,(hq.put y).2⟩;obtain ⟨x',ex',hx'⟩:=h1.form;have e:x'=y:=FsV.ext_val ex'.symm;subst e;exact hx'
theorem qvp {d:Dk} (h:okD d=true):∀l:List Int,(∀n∈l,34≤n∧n<mny d)→(l.flatMap fun n=>nowD d n.toNat).length=128*l.length
 | [],_=>rfl
 | n::l,hl=>by
  have h1:=hl n (List.mem_cons_self ..);rw [List.flatMap_cons,List.length_append,qvp h l (fun m hm=>hl m (List.mem_cons_of_mem _ hm)),qtk h (by omega),List.length_cons];omega
def Like (f g:Fsd) (but:List UInt8):Prop:=∀x∈f.2.2.1,x.1≠but→qat f x.1=0∧qat g x.1=0∧qfb f x.1=qfb g x.1
theorem qxp (x:Ex) (k:Nat):(blkX x k).Nodup:=by
 unfold blkX;rw [List.nodup_iff_pairwise_ne,List.pairwise_map];exact List.Pairwise.imp (fun h=>by omega) List.nodup_range
theorem qpm {l:List Ex} (h:apX l=true) (hp:∀x∈l,1≤x.2):(qao l).Nodup:=by
 have h:=(qyv l).1 h;unfold qao;rw [List.nodup_iff_pairwise_ne,List.pairwise_flatMap];refine ⟨fun x _=>qxp x _, ?_⟩
 refine List.Pairwise.imp ?_ h
 intro x y hm a ha b hb;unfold blkX at ha hb;obtain ⟨i,hi,rfl⟩:=List.mem_map.1 ha;obtain ⟨j,hj,rfl⟩:=List.mem_map.1 hb
 have:=List.mem_range.1 hi
 have:=List.mem_range.1 hj
 unfold qjt at hm
 simp only [Bool.and_eq_false_iff,decide_eq_false_iff_not] at hm
 omega
theorem qtl (fs:List Fl):qao (qar fs)=fs.flatMap fun g=>qao g.2:=by
 unfold qao qar;rw [List.flatMap_assoc]
theorem qrv {f:Fsd} (h:okFs f):(f.2.2.1.flatMap fun g=>qao g.2).Nodup:=by
 rw [←qtl];have hm:=qdy h
 have:=extP_parts.1 hm.2.2.1
 exact qpm this.1 (fun x hx=>(qdx hm.2.2.1 x hx).2.1)
theorem qnz {f:Fsd} (h:okFs f) {g:Fl} (hg:g∈f.2.2.1):(qao g.2).Nodup:=by
 have:=qrv h
 rw [List.nodup_iff_pairwise_ne,List.pairwise_flatMap] at this;exact this.1 g hg
theorem qtm {f:Fsd} (h:okFs f) {g k:Fl} (hg:g∈f.2.2.1) (hk:k∈f.2.2.1) (hne:g.1≠k.1) {n:Int} (h1:n∈qao g.2):n∉qao k.2:=by
 have hp:=qrv h;rw [List.nodup_iff_pairwise_ne,List.pairwise_flatMap] at hp;intro h2
 have hs:∀a∈f.2.2.1,∀b∈f.2.2.1,a.1≠b.1→∀x∈qao a.2,∀y∈qao b.2,x≠y:=by
  have:=hp.2
  intro a ha b hb hab;obtain ⟨i,hi,rfl⟩:=List.mem_iff_getElem.1 ha;obtain ⟨j,hj,rfl⟩:=List.mem_iff_getElem.1 hb;have hpw:=List.pairwise_iff_getElem.1 this
  rcases Nat.lt_trichotomy i j with hij | hij | hij
  ·exact hpw i j hi hj hij
  ·subst hij;exact absurd rfl hab
  ·intro x hx y hy e
   exact hpw j i hj hi hij y hy x hx e.symm
 exact hs g hg k hk hne n h1 n h2 rfl
theorem qabb {f:Fsd} {s:List UInt8} {i:Int} {b:List UInt8} (h:(qdh f s i b).2=0):
  okFs f∧∃d',qdh f s i b=((d',f.2),0)∧atE f s i=0∧oneD f.1 (false,atN f s i,b)=some d'∧actE (mny f.1) (false,atN f s i,b)=0:=by
 rw [qaa8] at h ⊢
 by_cases h0:fsE f=0
 ·have hok:=qh9 h0
  rw [if_neg (by rw [h0];decide)] at h ⊢
  by_cases h1:atE f s i=0
  ·rw [if_neg (by rw [h1];decide)] at h ⊢
   by_cases h2:(doD f.1 [(false,atN f s i,b)] 1).2=0
   ·obtain ⟨a1,a2,a3,a4,x,a5,a6⟩:=qaia h2
    have a7:=a2 (false,atN f s i,b) (by simp);refine ⟨hok,x, ?_,h1, ?_,a7⟩
    ·rw [if_neg (by rw [h2];decide),a6]
    ·have:qaq f.1 [(false,atN f s i,b)]=some x:=a5
     rw [qdf] at this;exact this
   ·rw [if_pos h2] at h;exact absurd h h2
  ·rw [if_pos h1] at h;exact absurd h h1
 ·rw [if_pos h0] at h;exact absurd h h0
theorem qabc {f:Fsd} {s:List UInt8} {i:Int} (h:okFs f) (ha:atE f s i=0):qat f s=0∧∃j:Nat,i=j∧∃hj:j<(bloL f s).length,atN f s i=(bloL f s)[j]:=by
 have ha2:=ha;unfold atE at ha
 by_cases h1:bloE f s=0
 ·have hs:qat f s=0:=by unfold qat;rw [if_neg (by rw [qci h];decide),h1]
  rw [if_neg (by rw [h1];decide)] at ha
  by_cases h2:i<0∨((bloL f s).length:Int)≤i
  ·rw [if_pos h2] at ha;cases ha
  ·refine ⟨hs,i.toNat,by omega,by omega, ?_⟩
   have e:i=(i.toNat:Int):=by omega
   have:=(qru hs (show i.toNat<(bloL f s).length by omega)).2.1
   rw [←e] at this;exact this
 ·rw [if_pos h1] at ha;exact absurd ha h1
theorem qaky {f:Fsd} {s:List UInt8} {i:Int} {b:List UInt8} (h:(qdh f s i b).2≠0):(qdh f s i b).1=fz:=by
 rw [qaa8] at h ⊢
 by_cases h0:fsE f≠0
 ·rw [if_pos h0]
 ·rw [if_neg h0] at h ⊢
  by_cases h1:atE f s i≠0
  ·rw [if_pos h1]
  ·rw [if_neg h1] at h ⊢
   by_cases h2:(doD f.1 [(false,atN f s i,b)] 1).2≠0
   ·rw [if_pos h2]
   ·rw [if_neg h2] at h;exact absurd rfl h
theorem qvq (F G:Int→List UInt8) (b:List UInt8):∀(l:List Int) (j:Nat) (hj:j<l.length),l.Nodup→(∀n∈l,(F n).length=128)→(∀n,G n=if n=l[j] then b else F n)→
  l.flatMap G=(l.flatMap F).take (128*j)++(b++(l.flatMap F).drop (128*j+128))
 | n::l,0,hj,hn,hF,hG=>by
  have h1:G n=b:=by rw [hG];simp
  have h2:l.flatMap G=l.flatMap F:=by
   have hx:∀m∈l,G m=F m:=by
    intro m hm;rw [hG,if_neg];intro e;have e:m=n:=e;subst e;exact (List.nodup_cons.1 hn).1 hm
   clear hG hF hn hj h1
   induction l with
   | nil=>rfl
   | cons a l ih=>rw [List.flatMap_cons,List.flatMap_cons,hx a (List.mem_cons_self ..),ih (fun m hm=>hx m (List.mem_cons_of_mem _ hm))]
  rw [List.flatMap_cons,h1,h2,List.flatMap_cons];have hl:=hF n (List.mem_cons_self ..);rw [Nat.mul_zero,List.take_zero,Nat.zero_add,List.nil_append,←hl,List.drop_left]
 | n::l,j+1,hj,hn,hF,hG=>by
  have hj':j<l.length:=by simpa using hj
  have ih:=qvq F G b l j hj' (List.nodup_cons.1 hn).2 (fun m hm=>hF m (List.mem_cons_of_mem _ hm)) (fun m=>by rw [hG];rfl)
  have h1:G n=F n:=by
   rw [hG,if_neg];intro e;have e:n=l[j]:=e;exact (List.nodup_cons.1 hn).1 (e ▸ List.getElem_mem hj')
  have hl:=hF n (List.mem_cons_self ..);rw [List.flatMap_cons,h1,ih,List.flatMap_cons]
  have e1:128*(j+1)=(F n).length+128*j:=by omega
  have e2:128*(j+1)+128=(F n).length+(128*j+128):=by omega
  rw [e2,e1,List.take_length_add_append,List.drop_length_add_append,List.append_assoc]
theorem qpn {f:Fsd} {s:List UInt8} {i:Int} {b:List UInt8} (h:(qdh f s i b).2=0):
  okFs (qdh f s i b).1∧(qdh f s i b).1.2=f.2∧b.length=128∧qat f s=0∧qat (qdh f s i b).1 s=0∧(∃j:Nat,i=j∧128*j+128≤(qfb f s).length∧qfb (qdh f s i b).1 s=(qfb f s).take (128*j)++(b++(qfb f s).drop (128*j+128)))∧getE (qdh f s i b).1 s i=0∧getL (qdh f s i b).1 s i=b∧Like f (qdh f s i b).1 s:=by
 obtain ⟨hok,d',e,ha,ho,hact⟩:=qabb h;rw [e];obtain ⟨hs,j,rfl,hj,hN⟩:=qabc hok ha;obtain ⟨hd,hm34,_,_⟩:=qam hok;obtain ⟨o1,o2,_⟩:=qdb hd hact ho;have hr:=qcr hs _ (List.getElem_mem hj)
 have hb:b.length=128:=by
  have:putE (mny f.1) (atN f s j,b)=0:=by unfold actE at hact;simpa using hact
  exact (qda this).2.2
 have hd1:d'.1=f.1.1∧d'.2.1=f.1.2.1++[(atN f s j,b)]:=by
  unfold oneD at ho
  split at ho
  ·cases ho
  ·simp only [Bool.false_eq_true,if_false] at ho;cases ho;exact ⟨rfl,rfl⟩
 have hokF:okFs (d',f.2.1,f.2.2.1,f.2.2.2):=qpj hok o1 (by rw [hd1.1]) (fun k _=>by rw [hd1.1]) (by
  intro p hp;rw [hd1.2] at hp
  rcases List.mem_append.1 hp with hp | hp
  ·exact hok.2.2.1 p hp
  ·rw [List.mem_singleton.1 hp];show 34≤atN f s j;rw [hN];exact hr.1) hok.2.2.2.2.2
 have hokF:okFs (d',f.2):=hokF
 have hsF:qat (d',f.2) s=0:=by rw [qiq (f:=f) (g:=(d',f.2)) rfl hok hokF];exact hs
 have hbl:bloL (d',f.2) s=bloL f s:=(qho (f:=f) (g:=(d',f.2)) rfl s).1
 have hnow:∀k:Nat,k<mny f.1→nowD d' k=if (k:Int)=atN f s j then b else nowD f.1 k:=by
  intro k hk
  have:=qfk hd hact ho hk
  rw [qed o1 (by omega),qed hd hk] at this;exact this
 obtain ⟨h0,l,hl⟩:=qdu hs;have hfi:=(qcv hok hl).2.2.2.1
 have hnd:(bloL f s).Nodup:=by rw [hfi];exact qnz hok hl
 refine ⟨hokF,rfl,hb,hs,hsF,⟨j,rfl, ?_, ?_⟩, ?_, ?_, ?_⟩
 ·unfold qfb
  rw [if_neg (by rw [hs];decide),qvp hd _ (qcr hs)];omega
 ·unfold qfb
  rw [if_neg (by rw [hsF];decide),if_neg (by rw [hs];decide),hbl]
  have hG:∀n∈bloL f s,nowD d' n.toNat=if n=(bloL f s)[j] then b else nowD f.1 n.toNat:=by
   intro n hn
   have:=qcr hs n hn
   rw [hnow _ (by omega),hN]
   have e:((n.toNat:Nat):Int)=n:=by omega
   rw [e]
  have hc:(bloL f s).flatMap (fun n=>nowD d' n.toNat)=(bloL f s).flatMap (fun n=>if n=(bloL f s)[j] then b else nowD f.1 n.toNat):=by
   have:∀(l:List Int),(∀n∈l,n∈bloL f s)→l.flatMap (fun n=>nowD d' n.toNat)=l.flatMap (fun n=>if n=(bloL f s)[j] then b else nowD f.1 n.toNat):=by
    intro l
    induction l with
    | nil=>intro _;rfl
    | cons a l ih=>intro hx;rw [List.flatMap_cons,List.flatMap_cons,hG a (hx a (List.mem_cons_self ..)),ih (fun m hm=>hx m (List.mem_cons_of_mem _ hm))]
   exact this _ (fun n hn=>hn)
  show (bloL f s).flatMap (fun n=>nowD d' n.toNat)=_
  rw [hc];exact qvq (fun n=>nowD f.1 n.toNat) (fun n=>if n=(bloL f s)[j] then b else nowD f.1 n.toNat) b (bloL f s) j hj hnd (fun n hn=>by have:=qcr hs n hn;exact qtk hd (by omega)) (fun n=>rfl)
 ·exact (qru hsF (i:=j) (by rw [hbl];exact hj)).2.2.1
 ·rw [(qru hsF (i:=j) (by rw [hbl];exact hj)).2.2.2]
  have e:(bloL (d',f.2) s)[j]'(by rw [hbl];exact hj)=(bloL f s)[j]:=by simp only [hbl]
  rw [e]
  show nowD d' _=b
  rw [hnow _ (by omega),if_pos (by rw [hN];omega)]
 ·intro g hg hne
  have hsg:=(qcv hok hg).2.2.2.2
  have hsg':qat (d',f.2) g.1=0:=by rw [qiq (f:=f) (g:=(d',f.2)) rfl hok hokF];exact hsg
  refine ⟨hsg,hsg',ql3 hsg hsg' (qho (f:=f) (g:=(d',f.2)) rfl g.1).1 ?_⟩;intro n hn;have hrn:=qcr hsg n hn
  show nowD d' n.toNat=_
  rw [hnow _ (by omega),if_neg];intro e;rw [hN] at e
  have e:n=(bloL f s)[j]:=by omega
  rw [(qcv hok hg).2.2.2.1] at hn
  have hin:n∈qao l:=by
   have h9:n∈bloL f s:=e ▸ List.getElem_mem hj;have hfi':bloL f s=qao l:=hfi;rw [hfi'] at h9;exact h9
  exact qtm hok hg hl hne hn hin
theorem qakz {f g:Fsd} {but:List UInt8} (hf:okFs f) (hg:okFs g) (hd:g.2.2.1=f.2.2.1) (hb:∀k:Nat,34≤k→k<mny f.1→nowD g.1 k=nowD f.1 k):Like f g but:=by
 intro x hx _;have h1:=(qcv hf hx).2.2.2.2
 have h2:qat g x.1=0:=by rw [qiq hd hf hg];exact h1
 refine ⟨h1,h2,ql3 h1 h2 (qho hd x.1).1 ?_⟩;intro n hn
 have:=qcr h1 n hn
 exact hb _ (by omega) (by omega)
theorem qabd {f:Fsd} (h:okFs f):(qbz f.1 (f.2.1 % 2)).1≤f.2.1:=by
 obtain ⟨_,_,hg,hL⟩:=qam h;obtain ⟨_,_,_,hb⟩:=qgu hL;rw [qi5 hb hg];exact Nat.le_refl _
theorem qja {f:Fsd} (hok:okFs f) (h:(qba f).2=0):∃x,qba f=((x,f.2.1+1,f.2.2.1,f.2.2.1),0)∧okFs (x,f.2.1+1,f.2.2.1,f.2.2.1)∧x.2.1=[]∧mny x=mny f.1∧f.2.1+1<4294967296∧Like f (x,f.2.1+1,f.2.2.1,f.2.2.1) []:=by
 rw [qim] at h ⊢;unfold qxm at h ⊢;rw [if_neg (by rw [qci hok];decide)] at h ⊢;obtain ⟨h1,h2,h3,h4⟩:=qam hok;have hlt:=(qia hok).2
 by_cases hg:f.2.1=4294967295
 ·rw [if_pos hg] at h;cases h
 ·rw [if_neg hg] at h ⊢
  cases ho:qaq f.1 (qbv (f.2.1+1) (bytF f.2.2.1)) with
  | none=>rw [ho] at h;cases h
  | some x=>
   have hc:=hok.2.2.2.2.2;have hx:=ql1 h1 h2 hok.2.2.1 hc (by omega) (qabd hok) ho;have hb:(bytF f.2.2.1).length≤2048:=(qbd hc).2.2.2.2;obtain ⟨o1,o2,o3,o4⟩:=qg2 h1 h2 (by omega) hb ho;refine ⟨x,rfl,hx,o3,o2,by omega,qakz hok hx rfl (fun k hk hk2=>?_)⟩
   show nowD x k=nowD f.1 k
   have e1:nowD x k=blk x.1 k:=by unfold nowD;rw [o3];rfl
   rw [e1,o4 k hk2,if_neg (by omega),if_neg (by rw [qbt];omega),qed h1 hk2]
theorem qxq {f:Fsd} (hok:okFs f) (h:(qba f).2≠0):(qba f).2=9:=by
 rw [qim] at h ⊢;unfold qxm at h ⊢;rw [if_neg (by rw [qci hok];decide)] at h ⊢
 by_cases hg:f.2.1=4294967295
 ·rw [if_pos hg]
 ·rw [if_neg hg] at h ⊢
  cases ho:qaq f.1 (qbv (f.2.1+1) (bytF f.2.2.1)) with
  | none=>rfl
  | some x=>rw [ho] at h;exact absurd rfl h
/-! ### how many blocks can be given -/
theorem ql4 {p q:Int→Bool} {a:Int}:∀k:Nat,(∀i:Nat,i<k→p (a+i)=q (a+i))→cntB p a k=cntB q a k
 | 0,_=>rfl
 | k+1,h=>by
  simp only [cntB]
  rw [ql4 k (fun i hi=>h i (by omega)),h k (by omega)]
theorem qabe {p:Int→Bool} {a:Int}:∀k:Nat,(∀i:Nat,i<k→p (a+i)=true)→cntB p a k=k
 | 0,_=>rfl
 | k+1,h=>by
  simp only [cntB]
  rw [qabe k (fun i hi=>h i (by omega)),h k (by omega),if_pos rfl];omega
theorem qpo {f:Fsd} (h:okFs f):allX (qax f)=0∧qax f=qar f.2.2.1++qar f.2.2.2∧(∀x∈qax f,34≤x.1∧1≤x.2∧x.1+x.2≤mny f.1):=by
 have hc:=h.2.2.2.2.2;have hk:=qg3 h
 have e1:qev f.2.2.1=qar f.2.2.1:=by unfold qev;rw [if_pos (qhv hc)]
 have e2:qev f.2.2.2=qar f.2.2.2:=by unfold qev;rw [if_pos (qhv hk)]
 have m1:=(qbd hc).2;have m2:=(qbd hk).2
 have hx:∀x∈qax f,34≤x.1∧1≤x.2∧x.1+x.2≤mny f.1:=by
  intro x hx;unfold qax at hx;rw [e1,e2] at hx
  rcases List.mem_append.1 hx with hx | hx
  ·exact qdx m1.2.2.1 x hx
  ·exact qdx m2.2.2.1 x hx
 have hmm:=((qbm f.1).1 (qam h).1).2.2.1
 have l1:∀{fs:List Fl} {B:Int},mayF fs B→(qar fs).length≤2048:=by
  intro fs B hm
  have:=qll fs 64 (fun g hg=>by have:=qta hm g hg;omega)
  have:=hm.1
  have hb:=hm.2.2.2
  -- the bytes bound the extents
  have hle:(qar fs).length≤(bytF fs).length:=by
   have:∀fs:List Fl,(qar fs).length≤(fs.flatMap qd0).length:=by
    intro fs
    induction fs with
    | nil=>simp [qar]
    | cons g fs ih=>
     have e:qar (g::fs)=g.2++qar fs:=rfl;rw [e,List.length_append,List.flatMap_cons,List.length_append]
     have h2:g.2.length≤(qd0 g).length:=by
      unfold qd0;rw [List.length_append,List.length_append]
      have:∀l:List Ex,l.length≤(bytE l).length:=by
       intro l
       induction l with
       | nil=>simp [bytE]
       | cons x l ih=>
        have e:bytE (x::l)=bytX x++bytE l:=rfl;rw [e,List.length_append,List.length_cons]
        have:1≤(bytX x).length:=by
         unfold bytX;rw [List.length_append]
         have:=qt9 x.1.toNat
         omega
        omega
      have:=this g.2
      omega
     omega
   have:=this fs
   unfold bytF;rw [List.length_append];omega
  omega
 refine ⟨?_, ?_,hx⟩
 ·refine qkm ?_ (fun x hx'=>by have:=hx x hx';omega)
  unfold qax;rw [e1,e2,List.length_append]
  have:=l1 m1
  have:=l1 m2
  omega
 ·unfold qax;rw [e1,e2]
theorem qak0 {f:Fsd} (h:okFs f):qcj 34 (qa3 f) (qax f)=0:=by
 have h1:=(qam h).1;rw [qgw h1];unfold qcj;have hmm:=((qbm f.1).1 h1).2.2.1
 have:=(qam h).2.1
 rw [if_neg (by omega),(qpo h).1]
theorem qvr {f:Fsd} (h:okFs f):qaj7 f=0∧qs1 f=cntB (fun n=>!inL (qax f) n) 34 (mny f.1 - 34):=by
 have h1:=(qam h).1;have h2:=(qam h).2.1;have hmm:=((qbm f.1).1 h1).2.2.1;have hf:=qak0 h;obtain ⟨r1,r2,r3⟩:=qe0 hf;have hm:=qgw h1;have hch:chkX (qc0 34 (qa3 f) (qax f))=0:=qyi r1 (by decide) (by rw [hm];omega) r3;have he:=qci h;refine ⟨?_, ?_⟩
 ·unfold qaj7;rw [if_neg (by rw [he];decide),if_neg (by rw [hf];decide),hch]
 ·unfold qs1
  rw [if_neg (by rw [he];decide),if_neg (by rw [hf];decide)];unfold manyR;rw [if_pos hch];rw [qhu (a:=34) (k:=mny f.1 - 34) _ (fun x hx=>by have:=r1.1 x hx;rw [hm] at this;omega) (qob hch).2];apply ql4;intro i hi;rw [r2,hm];rw [decide_eq_true (by omega),decide_eq_true (by omega)]
  simp
theorem qabf {p:Int→Bool} {a:Int} (k:Nat):cntB (fun n=>!p n) a k=k - cntB p a k:=by
 have h1:=qof (p:=p) (q:=fun n=>!p n) a k (fun i _ hp=>by simp [hp]);have h2:=qabe (p:=fun n=>p n || !p n) (a:=a) k (fun i _=>by simp);omega
theorem qafz {f:Fsd} (h:okFs f):qbb (qar f.2.2.1)=cntB (inL (qar f.2.2.1)) 34 (mny f.1 - 34):=by
 have hm:=qdy h
 have:=(qam h).2.1
 exact qhu _ (fun x hx=>by have:=qdx hm.2.2.1 x hx;omega) (extP_parts.1 hm.2.2.1).1
theorem ql5 {l:List Ex} (h:∀x∈l,0≤x.2):((qao l).length:Int)=qbb l:=by
 induction l with
 | nil=>rfl
 | cons x l ih=>
  have:=ih (fun y hy=>h y (List.mem_cons_of_mem _ hy))
  have hx:=h x (List.mem_cons_self ..);have e1:qao (x::l)=blkX x x.2.toNat++qao l:=rfl;have e2:qbb (x::l)=x.2+qbb l:=rfl
  have e3:(blkX x x.2.toNat).length=x.2.toNat:=by simp [blkX]
  rw [e1,e2,List.length_append,e3];omega
def sumS (fs:List Fl):Int:=((fs.map fun g=>(qao g.2).length).sum:Nat)
theorem qaf0 {fs:List Fl} (h:∀g∈fs,∀x∈g.2,0≤x.2):sumS fs=qbb (qar fs):=by
 induction fs with
 | nil=>rfl
 | cons g fs ih=>
  have:=ih (fun k hk=>h k (List.mem_cons_of_mem _ hk))
  have hg:=ql5 (h g (List.mem_cons_self ..));have e1:qar (g::fs)=g.2++qar fs:=rfl
  have e2:qbb (g.2++qar fs)=qbb g.2+qbb (qar fs):=by unfold qbb;rw [List.map_append,List.sum_append]
  rw [e1,e2,←this,←hg];unfold sumS;rw [List.map_cons,List.sum_cons];omega
theorem qaf1 (fs:List Fl) (k:Nat) (h:k<fs.length):sumS (fs.take (k+1))=sumS (fs.take k)+(qao (fs[k]).2).length:=by
 unfold sumS;rw [List.take_succ_eq_append_getElem h,List.map_append,List.sum_append]
 simp
theorem qaie {f:Fsd} (h:okFs f) (k:Nat):0≤sumS (f.2.2.1.take k)∧sumS (f.2.2.1.take k)≤4096:=by
 have hm:=qdy h
 have hall:∀g∈f.2.2.1,∀x∈g.2,0≤x.2:=fun g hg x hx=>by have:=qdx hm.2.2.1 x ((qi9 hg).subset hx);omega
 have h1:=qaf0 hall;have h2:=qafz h;have h3:=qoe (inL (qar f.2.2.1)) 34 (mny f.1 - 34);have hmm:=((qbm f.1).1 (qam h).1).2.2.1
 have e:sumS f.2.2.1=sumS (f.2.2.1.take k)+sumS (f.2.2.1.drop k):=by
  unfold sumS;rw [←Int.natCast_add,←List.sum_append,←List.map_append,List.take_append_drop]
 have a:0≤sumS (f.2.2.1.take k):=by unfold sumS;omega
 have b:0≤sumS (f.2.2.1.drop k):=by unfold sumS;omega
 omega
theorem qaf2 {f g:Fsd} {but:List UInt8} (hf:okFs f) (hg:okFs g) (hd:g.1=f.1) (hs:∀x∈f.2.2.1,x∈g.2.2.1):Like f g but:=by
 intro x hx _;have h1:=qcv hf hx;have h2:=qcv hg (hs x hx);refine ⟨h1.2.2.2.2,h2.2.2.2.2,ql3 h1.2.2.2.2 h2.2.2.2.2 (by rw [h1.2.2.2.1,h2.2.2.2.1]) ?_⟩;intro n _;rw [hd]
theorem qak1 {f:Fsd} (h:okFs f):okFs (f.1,f.2.1,f.2.2.2,f.2.2.2):=ql2 h (qg3 h)
theorem qaf3 {f:Fsd} {l:List Fl} {e:Int} (h:(qd6 f l e).2≠0):(qd6 f l e).1=fz:=by
 unfold qd6 at *
 split
 ·rfl
 ·split
  ·rfl
  ·rename_i h0 h1
   rw [if_neg h0,if_neg h1] at h;exact absurd rfl h
theorem qxr {f:Fsd} {s t:List UInt8} (h:(qcq f s t).2=0):okFs f∧qcq f s t=((f.1,f.2.1,renF f.2.2.1 s t,f.2.2.2),0)∧okFs (f.1,f.2.1,renF f.2.2.1 s t,f.2.2.2)∧qat f s=0∧qat (f.1,f.2.1,renF f.2.2.1 s t,f.2.2.2) t=0∧qfb f s=qfb (f.1,f.2.1,renF f.2.2.1 s t,f.2.2.2) t:=by
 obtain ⟨h0,h1,h2⟩:=qpk h;have hok:=qh9 h0
 have e:qck f.2.2.1 s t=renF f.2.2.1 s t:=by unfold qck;rw [if_pos h1]
 have ha:=qkw hok.2.2.2.2.2 h1;have hC:okFs (f.1,f.2.1,renF f.2.2.1 s t,f.2.2.2):=ql2 hok ha.2.2.1;have hr:=(qdy hok).2.1.2;have m1:(s,getF f.2.2.1 s)∈f.2.2.1:=qsr hr (qm1 ha.1).2.2;have m2:(t,getF f.2.2.1 s)∈renF f.2.2.1 s t:=ins_mem.2 (.inl rfl);have i1:=qcv hok m1;have i2:=qcv hC m2;refine ⟨hok,by unfold qcq;rw [h2,e],hC,i1.2.2.2.2,i2.2.2.2.2, ?_⟩;have s1:qat f s=0:=i1.2.2.2.2;have s2:qat (f.1,f.2.1,renF f.2.2.1 s t,f.2.2.2) t=0:=i2.2.2.2.2;have b1:bloL f s=qao (getF f.2.2.1 s):=i1.2.2.2.1;have b2:bloL (f.1,f.2.1,renF f.2.2.1 s t,f.2.2.2) t=qao (getF f.2.2.1 s):=i2.2.2.2.1;unfold qfb;rw [if_neg (by rw [s1];decide),if_neg (by rw [s2];decide),b1,b2]
theorem qvs {a b:Int} {l:List Ex} {n:Int} (ha:0≤a) (h:qd4 a b l n=0):qju a b (qb4 a b l n)∧qbb (qb4 a b l n)=n∧qb4 a b l n≠[]∧∀k,inL (qb4 a b l n) k=true→inL l k=false:=by
 obtain ⟨f1,f2,r,f3,f4⟩:=qj1 h;obtain ⟨r1,r2,r3⟩:=qe0 f1
 rcases qkp (qc0 a b l) n f2 (fun x hx=>(r1.1 x hx).2.1) with ⟨k1,_⟩ | ⟨p,x,q,c,k1,k2,k3,k4,k5⟩
 ·rw [k1] at f3;cases f3
 rw [k2] at f3;cases f3;rw [f4];refine ⟨qmy (q:=q) (x:=x) (y:=(x.1,c)) (k1 ▸ r1) rfl k3 k4, ?_,by simp, ?_⟩
 ·unfold qbb at *
  rw [List.map_append,List.sum_append]
  simpa using k5
 ·intro k hk
  have hin:inL (qc0 a b l) k=true:=by
   rw [qfw] at hk ⊢;obtain ⟨y,hy,h1,h2⟩:=hk;rw [k1]
   rcases List.mem_append.1 hy with hy | hy
   ·exact ⟨y,List.mem_append_left _ hy,h1,h2⟩
   ·obtain rfl:y=(x.1,c):=by simpa using hy
    exact ⟨x,by simp,h1,by simp only at h2;omega⟩
  rw [r2] at hin
  simp only [Bool.and_eq_true,Bool.not_eq_true'] at hin
  exact hin.2
theorem qg4 {f:Fsd} {s:List UInt8} {n:Int} (h:(qaz f s n).2=0):okFs f∧qaz f s n=((f.1,f.2.1,mkL f s n,f.2.2.2),0)∧okFs (f.1,f.2.1,mkL f s n,f.2.2.2)∧qat (f.1,f.2.1,mkL f s n,f.2.2.2) s=0∧qk9 (f.1,f.2.1,mkL f s n,f.2.2.2) s=n∧Like f (f.1,f.2.1,mkL f s n,f.2.2.2) []∧qaj7 (f.1,f.2.1,mkL f s n,f.2.2.2)=0∧qs1 (f.1,f.2.1,mkL f s n,f.2.2.2)=qs1 f - n∧1≤n∧n≤4096∧0≤qs1 f∧qs1 f≤4096:=by
 obtain ⟨h0,h1,h2⟩:=qpk h;have hok:=qh9 h0;obtain ⟨m1,m2,m3,m4⟩:=qafu h1;have hd:=(qam hok).1;have hmm:=qgw hd;have h34:=(qam hok).2.1;have hm4:=((qbm f.1).1 hd).2.2.1;obtain ⟨T,hT⟩:∃T,T=qb4 34 (qa3 f) (qax f) n:=⟨_,rfl⟩;rw [←hT] at m3 m4;have ht:=qvs (by decide) m2;rw [←hT,hmm] at ht;rw [hmm] at m3;have ha:=qst m3;have hA:okFs (f.1,f.2.1,insF f.2.2.1 (s,T),f.2.2.2):=ql2 hok ha.2.1;have hin:(s,T)∈insF f.2.2.1 (s,T):=ins_mem.2 (.inl rfl);have hfi:=qcv hA hin
 have hpos:∀x∈T,0≤x.2:=fun x hx=>by have:=ht.1.1 x hx;omega
 have hlen:=ql5 hpos;rw [ht.2.1] at hlen;rw [m4];refine ⟨hok,by unfold qaz;rw [h2,m4],hA,hfi.2.2.2.2, ?_,qaf2 hok hA rfl (fun x hx=>ins_mem.2 (.inr hx)), ?_⟩
 ·have hs:qat (f.1,f.2.1,insF f.2.2.1 (s,T),f.2.2.2) s=0:=hfi.2.2.2.2
  rw [(qpl hs).2.2];have hb:bloL (f.1,f.2.1,insF f.2.2.1 (s,T),f.2.2.2) s=qao T:=hfi.2.2.2.1
  rw [hb];exact hlen
 ·obtain ⟨c1,c2⟩:=qvr hA
  obtain ⟨d1,d2⟩:=qvr hok;have u1:=(qpo hA).2.1;have u2:=(qpo hok).2.1
  have hap:apX T=true:=by
   have hx:=(qgm m3).2.2.2.2.1;exact (qob (qaba hx (List.sublist_append_right _ _))).2
  have hcT:=qhu (a:=34) (k:=mny f.1 - 34) T (fun x hx=>by have:=ht.1.1 x hx;omega) hap;rw [ht.2.1] at hcT
  have hor:∀k,inL (qax (f.1,f.2.1,insF f.2.2.1 (s,T),f.2.2.2)) k=(inL (qax f) k || inL T k):=by
   intro k;rw [u1,u2]
   show inL (qar (insF f.2.2.1 (s,T))++qar f.2.2.2) k=_
   rw [Bool.eq_iff_iff]
   simp only [Bool.or_eq_true,qfw,List.mem_append]
   have hp:=qoh f.2.2.1 (s,T)
   constructor
   ·rintro ⟨x,hx | hx,h1,h2⟩
    ·rcases List.mem_append.1 (hp.mem_iff.1 hx) with hx | hx
     ·exact .inl ⟨x,.inl hx,h1,h2⟩
     ·exact .inr ⟨x,hx,h1,h2⟩
    ·exact .inl ⟨x,.inr hx,h1,h2⟩
   ·rintro (⟨x,hx | hx,h1,h2⟩ | ⟨x,hx,h1,h2⟩)
    ·exact ⟨x,.inl (hp.mem_iff.2 (List.mem_append_left _ hx)),h1,h2⟩
    ·exact ⟨x,.inr hx,h1,h2⟩
    ·exact ⟨x,.inl (hp.mem_iff.2 (List.mem_append_right _ hx)),h1,h2⟩
  have e1:=qof (p:=inL (qax f)) (q:=inL T) 34 (mny f.1 - 34) (fun i _ hp=>by
   cases e:inL T (34+(i:Int)) with
   | false=>rfl
   | true=>rw [ht.2.2.2 _ e] at hp;cases hp)
  have e2:=qabf (p:=inL (qax f)) (a:=34) (mny f.1 - 34);have e3:=qabf (p:=fun k=>inL (qax f) k || inL T k) (a:=34) (mny f.1 - 34)
  have e4:qs1 (f.1,f.2.1,insF f.2.2.1 (s,T),f.2.2.2)=cntB (fun k=>!(inL (qax f) k || inL T k)) 34 (mny f.1 - 34):=by
   rw [c2];exact ql4 _ (fun i _=>by rw [hor])
  have hw:=(qj1 m2).2.1
  have hn:n≤4096:=by
   by_cases hx:n<1∨4096<n
   ·rw [(qhs (qj1 m2).1 hx).1] at m2;cases m2
   ·omega
  have b1:=qoe (fun k=>!inL (qax f) k) 34 (mny f.1 - 34);have b2:=qoe (inL (qax f)) 34 (mny f.1 - 34);refine ⟨c1, ?_,hw,hn, ?_, ?_⟩
  ·rw [e4,d2];omega
  ·rw [d2];omega
  ·rw [d2];omega
end Go.Proofs.YtmeaiocohalphaaGreatDoor
